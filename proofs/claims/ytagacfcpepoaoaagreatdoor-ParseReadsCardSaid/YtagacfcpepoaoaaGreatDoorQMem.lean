/- RefMem, RefLeaf, RefLay, in one text. -/
import Derived.Test.YtagacfcpepoaoaaGreatDoorMAny
import Derived.Test.YtagacfcpepoaoaaGreatDoorMLeaf
import Derived.Test.YtagacfcpepoaoaaGreatDoorMKid
import Derived.StillTailTactics
import Derived.Test.YtagacfcpepoaoaaGreatDoorMPut
namespace Go.Proofs.YtagacfcpepoaoaaGreatDoor
open Go.RowKit
set_option linter.unusedVariables false

/-- a reader in block g: of the tokens L p are taken, d levels are open, l was laid, of the heights h, and e is wrong, at q -/
structure QCore (B g : Nat) (L : List Tk) (w : World) (R : Bx) (p : Nat) (d : Int) (l : List Nd) (h : List Nat) (e q : Int) : Prop where
  box : Held w g 47 #[.slice (some ⟨R.tb, 0, none⟩) L.length R.tc, .int .i64 (p : Int), .int .i64 d, R.vn, R.vh, .int .i64 e, .int .i64 q]
  toks : Toks w R.tb 0 L
  tlt : R.tb < w.heap.size
  told : B ≤ R.tb
  ty : ∃ cs fz, w.heap[R.tb]? = some (.cells cs 49 fz)
  own : w.ownsRow B 59 5 R.vn l.length (ndCells l)
  hts : Now B w R.vh (h.map Int.ofNat)
  kids : ∀ x ∈ l, Now B w (kidV x) x.kids
  off : ∀ x ∈ l, (kidV x).ownBlock = none ∨ (kidV x).ownBlock ≠ R.vh.ownBlock
  old : B ≤ g
  fin : ∀ j t, L[j]? = some t → t.kind ≠ 0 → j + 1 < L.length
  many : L.length ≤ 100000
  tabs : XTabs w
  base : xTop ≤ B
  zone : ∀ k, R.Z k → k < w.heap.size ∧ R.vh.ownBlock ≠ some k ∧ ∀ x ∈ l, (kidV x).ownBlock ≠ some k
structure QRd (B g : Nat) (L : List Tk) (w : World) (R : Bx) (p : Nat) (d : Int) (l : List Nd) (h : List Nat) (e q : Int) : Prop extends QCore B g L w R p d l h e q where
  len : h.length = l.length
  here : p < L.length
  few : l.length ≤ p + 1
  low : ∀ x ∈ h, x ≤ 200
theorem QCore.below_base {B g : Nat} {L : List Tk} {w w' : World} {R R' : Bx} {p : Nat} {d e q : Int} {l : List Nd} {h : List Nat} (H : QCore B g L w R p d l h e q) (F : Fr g w w' R R') : Below B w w' :=
  ⟨F.os, F.tape, F.output, F.size, fun k hk => F.block k (by have := H.old; have := H.box.lt; omega) (by have := H.old; omega) (fun e => by have := (H.own.lt k e).1; omega) (fun e => by have := (H.hts.lt k e).1; omega)⟩
/-- nothing of what was there has turned -/
theorem QCore.below {B g : Nat} {L : List Tk} {w w' : World} {R : Bx} {p : Nat} {d e q : Int} {l : List Nd} {h : List Nat} (H : QCore B g L w R p d l h e q) (hb : Below w.heap.size w w') : QCore B g L w' R p d l h e q := by
  obtain ⟨cs, fz, hty⟩ := H.ty
  exact ⟨H.box.since hb, H.toks.block (hb.block _ H.tlt), Nat.lt_of_lt_of_le H.tlt hb.size, H.told, ⟨cs, fz, (hb.block _ H.tlt).trans hty⟩, own_below H.own hb, own_below H.hts hb, fun x hx => own_below (H.kids x hx) hb, H.off, H.old, H.fin, H.many,
    H.tabs.keep (fun k hk => hb.block k (by have := H.tabs.size; omega)), H.base, fun k hk => ⟨Nat.lt_of_lt_of_le (H.zone k hk).1 hb.size, (H.zone k hk).2⟩⟩
theorem QRd.below {B g : Nat} {L : List Tk} {w w' : World} {R : Bx} {p : Nat} {d e q : Int} {l : List Nd} {h : List Nat} (H : QRd B g L w R p d l h e q) (hb : Below w.heap.size w w') : QRd B g L w' R p d l h e q :=
  ⟨H.toQCore.below hb, H.len, H.here, H.few, H.low⟩
theorem QCore.tb_ne {B g : Nat} {L : List Tk} {w : World} {R : Bx} {p : Nat} {d e q : Int} {l : List Nd} {h : List Nat} (H : QCore B g L w R p d l h e q) : R.tb ≠ g := by
  obtain ⟨cs, fz, hty⟩ := H.ty
  intro e0
  have h1 : w.heap[g]? = _ := H.box
  rw [e0, h1] at hty
  injection hty with h2
  injection h2 with _ h3
  exact absurd h3 (by decide)
/-- a cell of the reader's own is written: not its slices -/
theorem QRd.store {B g : Nat} {L : List Tk} {w : World} {R : Bx} {p p' : Nat} {d e q d' e' q' : Int} {l : List Nd} {h : List Nat} (H : QRd B g L w R p d l h e q) {i : Nat} {u : Value}
    (hc : (#[.slice (some ⟨R.tb, 0, none⟩) L.length R.tc, .int .i64 (p : Int), .int .i64 d, R.vn, R.vh, .int .i64 e, .int .i64 q] : Array Value).setIfInBounds i u = #[.slice (some ⟨R.tb, 0, none⟩) L.length R.tc, .int .i64 (p' : Int), .int .i64 d', R.vn, R.vh, .int .i64 e', .int .i64 q'])
    (hp : p' < L.length) (hf : l.length ≤ p' + 1) : QRd B g L (w.setCell ⟨g, i, none⟩ u) R p' d' l h e' q' := by
  have hg := H.box
  have hne : ∀ k, k ≠ g → (w.setCell ⟨g, i, none⟩ u).heap[k]? = w.heap[k]? := fun k hk => Below.heap_setCell w ⟨g, i, none⟩ u k hk
  obtain ⟨cs, fz, hty⟩ := H.ty
  have htb := H.toQCore.tb_ne
  have gr := grown_setCell w g i u
  refine ⟨⟨?_, H.toks.block (hne _ htb), by have := H.tlt; simpa [World.setCell] using this, H.told, ⟨cs, fz, (hne _ htb).trans hty⟩, H.own.kept gr (.inr (own_ne H.own hg (by decide))), H.hts.kept gr (.inr (own_ne H.hts hg (by decide))), fun x hx => (H.kids x hx).kept gr (.inr (own_ne (H.kids x hx) hg (by decide))), H.off, H.old, H.fin, H.many,
    H.tabs.keep (fun k hk => hne k (by have := H.old; have := H.base; omega)), H.base, fun k hk => ⟨by have := (H.zone k hk).1; simpa [World.setCell] using this, (H.zone k hk).2⟩⟩, H.len, hp, hf, H.low⟩
  have := hg.set i u
  rw [hc] at this
  exact this
/-- a node is put behind the others -/
theorem QCore.node {B g : Nat} {L : List Tk} {w W1 w3 : World} {R : Bx} {p : Nat} {d e q : Int} {l : List Nd} {h : List Nat} {v3 : Value} {y : Nd} (H0 : QCore B g L w R p d l h e q) (hW1 : Below w.heap.size w W1) (hown : w3.ownsRow B 59 5 v3 (l.length + 1) (ndCells l ++ y.cs.toList)) (hg : W1.grownBy w3 R.vn.ownBlock)
    (hat : ∀ k, v3.ownBlock = some k → R.vn.ownBlock = some k ∨ w.heap.size ≤ k) (hk : Now B w (kidV y) y.kids) (hoff : (kidV y).ownBlock = none ∨ (kidV y).ownBlock ≠ R.vh.ownBlock) (hz : ∀ k, R.Z k → (kidV y).ownBlock ≠ some k) :
    QCore B g L (w3.setCell ⟨g, 3, none⟩ v3) { R with vn := v3 } p d (l ++ [y]) h e q ∧ Fr g w (w3.setCell ⟨g, 3, none⟩ v3) R { R with vn := v3 } := by
  have H := H0.below hW1
  have hne : ∀ k, k ≠ g → (w3.setCell ⟨g, 3, none⟩ v3).heap[k]? = w3.heap[k]? := fun k hk => Below.heap_setCell w3 ⟨g, 3, none⟩ v3 k hk
  have hgv : R.vn.ownBlock ≠ some g := own_ne H.own H.box (by decide)
  have box3 : Held w3 g 47 _ := H.box.block (hg.block g H.box.lt (fun e => hgv e.symm))
  obtain ⟨cs, fz, hty⟩ := H.ty
  have htv : R.vn.ownBlock ≠ some R.tb := own_ne H.own hty (by decide)
  have htb3 : w3.heap[R.tb]? = W1.heap[R.tb]? := hg.block R.tb H.tlt (fun e => htv e.symm)
  have gr := grown_setCell w3 g 3 v3
  have hk1 : Now B W1 (kidV y) y.kids := own_below hk hW1
  have K3 : ∀ x, Now B W1 (kidV x) x.kids → Now B (w3.setCell ⟨g, 3, none⟩ v3) (kidV x) x.kids := by
    intro x hx
    have h3 : Now B w3 (kidV x) x.kids := World.ownsRow.kept hx hg (own_own hx H.own (by decide))
    exact World.ownsRow.kept h3 gr (.inr (own_ne h3 box3 (by decide)))
  have h3 : Now B w3 R.vh (h.map Int.ofNat) := World.ownsRow.kept H.hts hg (own_own H.hts H.own (by decide))
  refine ⟨⟨box3.set 3 v3, (H.toks.block htb3).block (hne _ H.tb_ne), ?_, H.told, ⟨cs, fz, (hne _ H.tb_ne).trans (htb3.trans hty)⟩, ?_, World.ownsRow.kept h3 gr (.inr (own_ne h3 box3 (by decide))), ?_, ?_, H.old, H.fin, H.many, ?_, H.base, ?zone⟩, ?_, ?_, ?_, ?_, ?_, ?_, ?_⟩
  case zone =>
    intro k hk
    have h1 := H.zone k hk
    refine ⟨by have h2 := hg.size; have h4 := h1.1; simp [World.setCell]; omega, h1.2.1, fun x hx => ?_⟩
    rcases List.mem_append.1 hx with hx | hx
    · exact h1.2.2 x hx
    · rw [List.mem_singleton.1 hx]; exact hz k hk
  · have h1 := H.tlt; have h2 := hg.size; simp [World.setCell]; omega
  · have h4 := World.ownsRow.kept hown gr (.inr (own_ne hown box3 (by decide)))
    rw [List.length_append, ndCells_append, ndCells_one]
    exact h4
  · intro x hx
    rcases List.mem_append.1 hx with hx | hx
    · exact K3 x (H.kids x hx)
    · rw [List.mem_singleton.1 hx]; exact K3 y hk1
  · intro x hx
    rcases List.mem_append.1 hx with hx | hx
    · exact H.off x hx
    · rw [List.mem_singleton.1 hx]; exact hoff
  · refine H.tabs.keep (fun k hk => ?_)
    have hb := H.base
    rw [hne k (by have := H.old; omega), hg.block k (by have := H.tabs.size; omega) (fun e => by have := (H.own.lt k e.symm).1; omega)]
  · exact (show w3.os = _ from hg.os).trans hW1.os
  · exact (show w3.tape = _ from hg.tape).trans hW1.tape
  · exact (show w3.output = _ from hg.output).trans hW1.output
  · have h1 := hW1.size; have h2 := hg.size; simp [World.setCell]; omega
  · intro k hk h1 h2 h4
    rw [hne k h1, hg.block k (by have := hW1.size; omega) (fun e => h2 e.symm), hW1.block k hk]
  · exact hat
  · exact fun k hk => .inl hk
/-- a height is put behind the others -/
theorem QCore.height {B g : Nat} {L : List Tk} {w W1 w3 : World} {R : Bx} {p : Nat} {d e q : Int} {l : List Nd} {h : List Nat} {v3 : Value} {z : Nat} (H0 : QCore B g L w R p d l h e q) (hW1 : Below w.heap.size w W1) (hown : Now B w3 v3 ((h ++ [z]).map Int.ofNat)) (hg : W1.grownBy w3 R.vh.ownBlock)
    (hat : ∀ k, v3.ownBlock = some k → R.vh.ownBlock = some k ∨ w.heap.size ≤ k) :
    QCore B g L (w3.setCell ⟨g, 4, none⟩ v3) { R with vh := v3 } p d l (h ++ [z]) e q ∧ Fr g w (w3.setCell ⟨g, 4, none⟩ v3) R { R with vh := v3 } := by
  have H := H0.below hW1
  have hne : ∀ k, k ≠ g → (w3.setCell ⟨g, 4, none⟩ v3).heap[k]? = w3.heap[k]? := fun k hk => Below.heap_setCell w3 ⟨g, 4, none⟩ v3 k hk
  have hgv : R.vh.ownBlock ≠ some g := own_ne H.hts H.box (by decide)
  have box3 : Held w3 g 47 _ := H.box.block (hg.block g H.box.lt (fun e => hgv e.symm))
  obtain ⟨cs, fz, hty⟩ := H.ty
  have htv : R.vh.ownBlock ≠ some R.tb := own_ne H.hts hty (by decide)
  have htb3 : w3.heap[R.tb]? = W1.heap[R.tb]? := hg.block R.tb H.tlt (fun e => htv e.symm)
  have gr := grown_setCell w3 g 4 v3
  have own3 := World.ownsRow.kept H.own hg (own_own H.own H.hts (by decide))
  refine ⟨⟨box3.set 4 v3, (H.toks.block htb3).block (hne _ H.tb_ne), ?_, H.told, ⟨cs, fz, (hne _ H.tb_ne).trans (htb3.trans hty)⟩, World.ownsRow.kept own3 gr (.inr (own_ne own3 box3 (by decide))), World.ownsRow.kept hown gr (.inr (own_ne hown box3 (by decide))), ?_, ?_, H.old, H.fin, H.many, ?_, H.base, ?zone⟩, ?_, ?_, ?_, ?_, ?_, ?_, ?_⟩
  case zone =>
    intro k hk
    have h1 := H0.zone k hk
    refine ⟨by have h2 := hg.size; have h4 := h1.1; have h5 := hW1.size; simp [World.setCell]; omega, fun e => ?_, h1.2.2⟩
    rcases hat k e with h6 | h6
    · exact h1.2.1 h6
    · have := h1.1; omega
  · have h1 := H.tlt; have h2 := hg.size; simp [World.setCell]; omega
  · intro x hx
    have h4 : Now B w3 (kidV x) x.kids := World.ownsRow.kept (H.kids x hx) hg (H.off x hx)
    exact World.ownsRow.kept h4 gr (.inr (own_ne h4 box3 (by decide)))
  · intro x hx
    cases hb : (kidV x).ownBlock with
    | none => exact .inl rfl
    | some b =>
      right
      intro e
      rcases hat b e.symm with h1 | h1
      · rcases H.off x hx with h2 | h2
        · rw [h2] at hb; cases hb
        · exact h2 (hb.trans h1.symm)
      · have h2 := ((H0.kids x hx).lt b hb).2
        omega
  · refine H.tabs.keep (fun k hk => ?_)
    have hb := H.base
    rw [hne k (by have := H.old; omega), hg.block k (by have := H.tabs.size; omega) (fun e => by have := (H.hts.lt k e.symm).1; omega)]
  · exact (show w3.os = _ from hg.os).trans hW1.os
  · exact (show w3.tape = _ from hg.tape).trans hW1.tape
  · exact (show w3.output = _ from hg.output).trans hW1.output
  · have h1 := hW1.size; have h2 := hg.size; simp [World.setCell]; omega
  · intro k hk h1 h2 h4
    rw [hne k h1, hg.block k (by have := hW1.size; omega) (fun e => h4 e.symm), hW1.block k hk]
  · exact fun k hk => .inl hk
  · exact hat
/-- nothing is wrong -/
def QGood (B g : Nat) (L : List Tk) (w : World) (R : Bx) (d : Nat) (s : PS) : Prop := ∃ p l, QRd B g L w R p (d : Int) l s.h 0 0 ∧ s.r = L.drop p ∧ s.l = l.map bare
/-- another row of ints is written, or made longer -/
theorem QRd.foreign {B g : Nat} {L : List Tk} {w : World} {R : Bx} {p : Nat} {d e q : Int} {l : List Nd} {h : List Nat} {W1 w' : World} {v : Value} {B' n : Nat} {xs : List Value} (H0 : QRd B g L w R p d l h e q) (hW1 : Below w.heap.size w W1) (hv : W1.ownsRow B' 3 1 v n xs) (hB' : xTop ≤ B') (hz : ∀ k, v.ownBlock = some k → R.Z k) (hg : W1.grownBy w' v.ownBlock) : QRd B g L w' R p d l h e q := by
  have H := H0.below hW1
  obtain ⟨cs, fz, hty⟩ := H.ty
  have hgv : v.ownBlock ≠ some g := own_ne hv H.box (by decide)
  have htv : v.ownBlock ≠ some R.tb := own_ne hv hty (by decide)
  have htb : w'.heap[R.tb]? = W1.heap[R.tb]? := hg.block R.tb H.tlt (fun e => htv e.symm)
  have hne : ∀ {u : Value}, (∀ k, R.Z k → u.ownBlock ≠ some k) → u.ownBlock = none ∨ u.ownBlock ≠ v.ownBlock := by
    intro u hu
    cases hb : u.ownBlock with
    | none => exact .inl rfl
    | some b => exact .inr (fun e => hu b (hz b e.symm) hb)
  have hlow : ∀ k, k < xTop → w'.heap[k]? = W1.heap[k]? := by
    intro k hk
    exact hg.block k (by have := H.tabs.size; omega) (fun e => by have := (hv.lt k e.symm).1; omega)
  refine ⟨⟨H.box.block (hg.block g H.box.lt (fun e => hgv e.symm)), H.toks.block htb, Nat.lt_of_lt_of_le H.tlt hg.size, H.told, ⟨cs, fz, htb.trans hty⟩, World.ownsRow.kept H.own hg (own_own H.own hv (by decide)), World.ownsRow.kept H.hts hg (hne (fun k hk => (H.zone k hk).2.1)), fun x hx => World.ownsRow.kept (H.kids x hx) hg (hne (fun k hk => (H.zone k hk).2.2 x hx)), H.off, H.old, H.fin, H.many, H.tabs.keep hlow, H.base, fun k hk => ⟨Nat.lt_of_lt_of_le (H.zone k hk).1 hg.size, (H.zone k hk).2⟩⟩, H.len, H.here, H.few, H.low⟩
theorem QRd.less {B g : Nat} {L : List Tk} {w : World} {R : Bx} {p : Nat} {d e q : Int} {l : List Nd} {h : List Nat} (H : QRd B g L w R p d l h e q) (Z' : Nat → Prop) (hz : ∀ k, Z' k → R.Z k) : QRd B g L w { R with Z := Z' } p d l h e q :=
  ⟨⟨H.box, H.toks, H.tlt, H.told, H.ty, H.own, H.hts, H.kids, H.off, H.old, H.fin, H.many, H.tabs, H.base, fun k hk => H.zone k (hz k hk)⟩, H.len, H.here, H.few, H.low⟩
/-- .. with a block that was made behind w -/
theorem QRd.wider {B g : Nat} {L : List Tk} {w w' : World} {R : Bx} {p : Nat} {d e q : Int} {l : List Nd} {h : List Nat} (H : QRd B g L w R p d l h e q) (H' : QRd B g L w' R p d l h e q) (Z' : Nat → Prop) (hz : ∀ k, Z' k → R.Z k ∨ (w.heap.size ≤ k ∧ k < w'.heap.size)) : QRd B g L w' { R with Z := Z' } p d l h e q := by
  refine ⟨⟨H'.box, H'.toks, H'.tlt, H'.told, H'.ty, H'.own, H'.hts, H'.kids, H'.off, H'.old, H'.fin, H'.many, H'.tabs, H'.base, fun k hk => ?_⟩, H'.len, H'.here, H'.few, H'.low⟩
  rcases hz k hk with h1 | ⟨h1, h2⟩
  · exact H'.zone k h1
  · exact ⟨h2, fun e => by have := (H.hts.lt k e).2; omega, fun x hx e => by have := ((H.kids x hx).lt k e).2; omega⟩
theorem QGood.tok {B g : Nat} {L : List Tk} {w : World} {R : Bx} {d : Nat} {s : PS} (H : QGood B g L w R d s) : ∃ p l, QRd B g L w R p (d : Int) l s.h 0 0 ∧ s.r = L.drop p ∧ s.l = l.map bare ∧ L[p]? = some s.tok ∧ s.next.r = L.drop (p + 1) := by
  obtain ⟨p, l, h, hr, hl⟩ := H
  obtain ⟨t, h1, h2⟩ := getD_some h.here
  refine ⟨p, l, h, hr, hl, ?_, ?_⟩
  · unfold PS.tok; rw [hr, h2]; exact h1
  · show s.r.tail = _; rw [hr, h2]; rfl
theorem QCore.c0 {B g : Nat} {L : List Tk} {w : World} {R : Bx} {p : Nat} {d e q : Int} {l : List Nd} {h : List Nat} (H : QCore B g L w R p d l h e q) : w.cell? ⟨g, 0, none⟩ = some (.slice (some ⟨R.tb, 0, none⟩) L.length R.tc) := H.box.at_ rfl
theorem QCore.c1 {B g : Nat} {L : List Tk} {w : World} {R : Bx} {p : Nat} {d e q : Int} {l : List Nd} {h : List Nat} (H : QCore B g L w R p d l h e q) : w.cell? ⟨g, 1, none⟩ = some (.int .i64 (p : Int)) := H.box.at_ rfl
theorem QCore.c2 {B g : Nat} {L : List Tk} {w : World} {R : Bx} {p : Nat} {d e q : Int} {l : List Nd} {h : List Nat} (H : QCore B g L w R p d l h e q) : w.cell? ⟨g, 2, none⟩ = some (.int .i64 d) := H.box.at_ rfl
theorem QCore.c3 {B g : Nat} {L : List Tk} {w : World} {R : Bx} {p : Nat} {d e q : Int} {l : List Nd} {h : List Nat} (H : QCore B g L w R p d l h e q) : w.cell? ⟨g, 3, none⟩ = some R.vn := H.box.at_ rfl
theorem QCore.c4 {B g : Nat} {L : List Tk} {w : World} {R : Bx} {p : Nat} {d e q : Int} {l : List Nd} {h : List Nat} (H : QCore B g L w R p d l h e q) : w.cell? ⟨g, 4, none⟩ = some R.vh := H.box.at_ rfl
theorem QCore.c5 {B g : Nat} {L : List Tk} {w : World} {R : Bx} {p : Nat} {d e q : Int} {l : List Nd} {h : List Nat} (H : QCore B g L w R p d l h e q) : w.cell? ⟨g, 5, none⟩ = some (.int .i64 e) := H.box.at_ rfl
theorem QCore.c6 {B g : Nat} {L : List Tk} {w : World} {R : Bx} {p : Nat} {d e q : Int} {l : List Nd} {h : List Nat} (H : QCore B g L w R p d l h e q) : w.cell? ⟨g, 6, none⟩ = some (.int .i64 q) := H.box.at_ rfl
variable {B g : Nat} {L : List Tk} {w w' : World} {R R' : Bx} {d : Nat} {o o' : Except Flt PS}
/-- something was noted; how many levels are open does not matter any more -/
def QBad (B g : Nat) (L : List Tk) (w : World) (R : Bx) (f : Flt) : Prop := ∃ p l h, ∃ dd : Int, QRd B g L w R p dd l h (f.1 : Int) (f.2 : Int) ∧ f.1 ≠ 0
def QAny (B g : Nat) (L : List Tk) (w : World) (R : Bx) (d : Nat) : Except Flt PS → Prop
  | .ok s => QGood B g L w R d s
  | .error f => QBad B g L w R f
theorem QAny.core (H : QAny B g L w R d o) : ∃ p l h dd e q, QRd B g L w R p dd l h e q := by
  cases o with
  | ok s => obtain ⟨p, l, h, _⟩ := H; exact ⟨_, _, _, _, _, _, h⟩
  | error f => obtain ⟨p, l, h, dd, H, _⟩ := H; exact ⟨_, _, _, _, _, _, H⟩
theorem QAny.map {w' : World} {R' : Bx} (H : QAny B g L w R d o) (h : ∀ p dd l h e q, QRd B g L w R p dd l h e q → QRd B g L w' R' p dd l h e q) : QAny B g L w' R' d o := by
  cases o with
  | ok s => obtain ⟨p, l, H, r⟩ := H; exact ⟨p, l, h _ _ _ _ _ _ H, r⟩
  | error f => obtain ⟨p, l, hh, dd, H, r⟩ := H; exact ⟨p, l, hh, dd, h _ _ _ _ _ _ H, r⟩
theorem QAny.below (H : QAny B g L w R d o) (hb : Below w.heap.size w w') : QAny B g L w' R d o := H.map fun _ _ _ _ _ _ h => h.below hb
theorem QAny.less (H : QAny B g L w R d o) (Z' : Nat → Prop) (hz : ∀ k, Z' k → R.Z k) : QAny B g L w { R with Z := Z' } d o := H.map fun _ _ _ _ _ _ h => h.less Z' hz
theorem QAny.wider {B' n : Nat} {W1 : World} {v : Value} {xs : List Value} (H : QAny B g L w R d o) (hW1 : Below w.heap.size w W1) (hv : W1.ownsRow B' 3 1 v n xs) (hB' : xTop ≤ B') (hz : ∀ k, v.ownBlock = some k → R.Z k) (hg : W1.grownBy w' v.ownBlock) (Z' : Nat → Prop) (hz' : ∀ k, Z' k → R.Z k ∨ (w.heap.size ≤ k ∧ k < w'.heap.size)) : QAny B g L w' { R with Z := Z' } d o :=
  H.map fun _ _ _ _ _ _ h => h.wider (h.foreign hW1 hv hB' hz hg) Z' hz'
theorem QAny.widen (H : QAny B g L w R d o) (hW1 : Below w.heap.size w w') (Z' : Nat → Prop) (hz' : ∀ k, Z' k → R.Z k ∨ (w.heap.size ≤ k ∧ k < w'.heap.size)) : QAny B g L w' { R with Z := Z' } d o :=
  H.wider (B' := xTop) (n := 0) (xs := []) (v := .slice none 0 0) hW1 ⟨rfl, .inl ⟨rfl, rfl⟩⟩ (Nat.le_refl _) (fun k hk => by simp [Value.ownBlock] at hk) (grown_refl _ _) Z' hz'
theorem QAny.tabs (H : QAny B g L w R d o) : XTabs w := by
  obtain ⟨p, l, hh, dd, e, q, H⟩ := H.core
  exact H.tabs
theorem QAny.below_base (H : QAny B g L w R d o) (F : Fr g w w' R R') : Below B w w' := by
  obtain ⟨p, l, hh, dd, e, q, H⟩ := H.core
  exact H.toQCore.below_base F
theorem QAny.many (H : QAny B g L w R d o) : L.length ≤ 100000 := by
  obtain ⟨p, l, hh, dd, e, q, H⟩ := H.core
  exact H.many
theorem QAny.held {G : Nat} {t : TypeId} {cs : Array Value} (H : QAny B g L w R d o) (F : Fr g w w' R R') (h : Held w G t cs) (h1 : t ≠ 47) (h2 : t ≠ 3) (hv : R.vn.ownBlock ≠ some G) : Held w' G t cs := by
  obtain ⟨p, l, hh, dd, e, q, H⟩ := H.core
  refine h.block (F.block G h.lt ?_ hv (own_ne H.hts h (fun e => h2 e.symm)))
  intro e
  subst e
  have h4 : w.heap[G]? = _ := H.box
  have h5 : w.heap[G]? = _ := h
  rw [h4] at h5
  injection h5 with h6
  injection h6 with _ h7
  exact h1 h7.symm
theorem QAny.vn_ne {G : Nat} {t : TypeId} {cs : Array Value} (H : QAny B g L w R d o) (h : Held w G t cs) (h2 : t ≠ 59) : R.vn.ownBlock ≠ some G := by
  obtain ⟨p, l, hh, dd, e, q, H⟩ := H.core
  exact own_ne H.own h (fun e => h2 e.symm)
theorem QAny.now_keep {v : Value} {acc : List Int} {B1 : Nat} (h : Now B1 w v acc) (H : QAny B g L w R d o) (hz : ∀ k, v.ownBlock = some k → R.Z k) (F : Fr g w w' R R') : Now B1 w' v acc := by
  obtain ⟨p, l, hh, dd, e, q, H⟩ := H.core
  refine h.block_own (fun k hk => ?_)
  have hlt := (World.ownsRow.lt h k hk).2
  refine F.block k hlt ?_ ?_ ((H.zone k (hz k hk)).2.1)
  · intro e
    subst e
    exact own_ne h H.box (by decide) hk
  · intro e
    rcases own_own h H.own (by decide) with h1 | h1
    · rw [h1] at hk; cases hk
    · exact h1 (hk.trans e.symm)
theorem QGood.some {s : PS} (H : QGood B g L w R d s) : 0 < s.r.length := by
  obtain ⟨p, l, h, hr, hl⟩ := H
  have := h.here
  rw [hr, List.length_drop]
  omega
def qlam (g n : Nat) (w : World) : Nat := match w.cell? ⟨g, 5, none⟩, w.cell? ⟨g, 1, none⟩ with
  | some (.int _ e), some (.int _ p) => if e = 0 then n - p.toNat else 0
  | _, _ => 0
theorem QGood.qlam {s : PS} (H : QGood B g L w R d s) : qlam g L.length w = s.r.length := by
  obtain ⟨p, l, h, hr, hl⟩ := H
  unfold Go.Proofs.YtagacfcpepoaoaaGreatDoor.qlam
  rw [h.c5, h.c1]
  show (if (0 : Int) = 0 then _ else _) = _
  rw [if_pos rfl, hr, List.length_drop]
  rfl
theorem QBad.qlam {f : Flt} (H : QBad B g L w R f) : qlam g L.length w = 0 := by
  obtain ⟨p, l, h, dd, H, hf⟩ := H
  unfold Go.Proofs.YtagacfcpepoaoaaGreatDoor.qlam
  rw [H.c5, H.c1]
  show (if (f.1 : Int) = 0 then _ else _) = _
  rw [if_neg (by omega)]
end Go.Proofs.YtagacfcpepoaoaaGreatDoor

namespace Go.Proofs.YtagacfcpepoaoaaGreatDoor
open Go.RowKit
set_option linter.unusedVariables false

variable {B g : Nat} {L : List Tk} {w : World} {R : Bx} {d : Nat} {o : Except Flt PS} {p : Nat} {dd e q : Int} {l : List Nd} {h : List Nat}
set_option maxRecDepth 100000 in
theorem q_fail (x a : Nat) (hx : x ≠ 0) (H : QAny B g L w R d o) :
    Calls Tryz.prog 18 #[.pointer (some ⟨g, 0, none⟩), .int .i64 (x : Int), .int .i64 (a : Int)] w fun en w' => (∃ v, en = .returned v) ∧ QAny B g L w' R d (failO x a o) ∧ Fr g w w' R R := by
  cases o with
  | ok s =>
    obtain ⟨p, l, H, hr, hl⟩ := H
    have c5 := H.c5
    have c6 := H.c6
    have f5 := H.box.frozen 5
    have f6 := H.box.frozen 6
    have HH := hidden H
    have HX := hidden hx
    clear H hx
    go_enter Tryz.func18, Tryz.ntmps18
    go_wp2_with fail
    go_end0
    refine ⟨⟨_, rfl⟩, ⟨p, l, s.h, (d : Int), ?_, HX.out⟩, ?_⟩
    · have h1 := HH.out.store (i := 5) (u := .int .i64 (x : Int)) (e' := (x : Int)) (q' := 0) (d' := (d : Int)) (p' := p) rfl HH.out.here HH.out.few
      exact h1.store (i := 6) (u := .int .i64 (a : Int)) (e' := (x : Int)) (q' := (a : Int)) (d' := (d : Int)) (p' := p) rfl HH.out.here HH.out.few
    · exact (Fr.store (B := B) (L := L) 5 _).trans (Fr.store (B := B) (L := L) 6 _)
  | error f =>
    obtain ⟨p, l, h, dd, H, hf⟩ := H
    have c5 := H.c5
    have hfb : ((f.1 : Int) == 0) = false := by simp; omega
    have HH := hidden H
    have HF := hidden hf
    clear H hf
    go_enter Tryz.func18, Tryz.ntmps18
    go_wp2_with fail
    go_end0
    exact ⟨⟨_, rfl⟩, ⟨p, l, h, dd, HH.out, HF.out⟩, Fr.of_below R (Below.refl _ _)⟩
set_option maxRecDepth 100000 in
theorem q_now_rd {t : Tk} (H : QRd B g L w R p dd l h e q) (ht : L[p]? = some t) :
    Calls Tryz.prog 16 #[.pointer (some ⟨g, 0, none⟩)] w fun en w' => en = .returned (.agg #[.int .i64 (t.kind : Int), .string ⟨t.text.toArray⟩, .int .i64 (t.n : Int), .int .i64 (t.place : Int)]) ∧ Below w.heap.size w w' := by
  have hp := H.here
  have hm := H.many
  obtain ⟨W, hW⟩ : ∃ W, W = w.alloc (.cells #[.int .i64 0, .string ⟨#[]⟩, .int .i64 0, .int .i64 0] 49) := ⟨_, rfl⟩
  have HB : Hid (Below w.heap.size w W) := by rw [hW]; exact (Below.refl _ _).alloc (Nat.le_refl _) _
  obtain ⟨G, hG⟩ : ∃ G, G = w.heap.size := ⟨_, rfl⟩
  have HG : Hid (Held W G 49 #[.int .i64 0, .string ⟨#[]⟩, .int .i64 0, .int .i64 0]) := by rw [hW, hG]; exact Held.new _ _ _
  have HW := H.below HB.out
  obtain ⟨y0, y1, y2, y3⟩ := HW.toks.at_ ht
  rw [Nat.zero_add] at y0 y1 y2 y3
  have c0 := HW.c0
  have c1 := HW.c1
  have z0 := HG.out.t0
  have z1 := HG.out.t1
  have z2 := HG.out.t2
  have z3 := HG.out.t3
  have f0 := HG.out.frozen 0
  have f1 := HG.out.frozen 1
  have f2 := HG.out.frozen 2
  have f3 := HG.out.frozen 3
  obtain ⟨n, hn⟩ : ∃ n, n = L.length := ⟨_, rfl⟩
  rw [← hn] at hp hm c0
  obtain ⟨S, hS⟩ : ∃ S : ByteArray, S = ⟨t.text.toArray⟩ := ⟨_, rfl⟩
  rw [← hS] at y1 ⊢
  obtain ⟨tb, htb⟩ : ∃ tb, tb = R.tb := ⟨_, rfl⟩
  rw [← htb] at y0 y1 y2 y3 c0
  have HGG := hidden hG
  have hpi : (p : Int) < (n : Int) := by omega
  clear H HW ht hn hS htb hG
  go_enter Tryz.func16, Tryz.ntmps16
  go_wp2_with fail
  rw [← hW, ← HGG.out]
  clear hW
  go_still_tail 10, (by kernel_rfl)
  change wpList _ _ _ _ _ W.drew
  go_wp2_with fail
  obtain ⟨W', hW', hH, hBel⟩ := four_told HG.out HB.out (by rw [HGG.out]; exact Nat.le_refl _) (.int .i64 (t.kind : Int)) (.string S) (.int .i64 (t.n : Int)) (.int .i64 (t.place : Int))
  rw [← hW']
  have x0 : W'.drew.cell? ⟨G, 0, none⟩ = some (.int .i64 (t.kind : Int)) := hH.t0
  have x1 : W'.drew.cell? ⟨G, 1, none⟩ = some (.string S) := hH.t1
  have x2 : W'.drew.cell? ⟨G, 2, none⟩ = some (.int .i64 (t.n : Int)) := hH.t2
  have x3 : W'.drew.cell? ⟨G, 3, none⟩ = some (.int .i64 (t.place : Int)) := hH.t3
  clear hW' hH
  exact bodyPost_ret (v := .agg #[.int .i64 (t.kind : Int), .string S, .int .i64 (t.n : Int), .int .i64 (t.place : Int)]) (by simp [results, Tryz.results16, go_sem, x0, x1, x2, x3]) rfl ⟨rfl, hBel.drew⟩
/-- the next token, also behind a fault -/
theorem q_now (H : QAny B g L w R d o) : ∃ t : Tk, (∀ s, o = .ok s → t = s.tok) ∧
    Calls Tryz.prog 16 #[.pointer (some ⟨g, 0, none⟩)] w fun en w' => en = .returned (.agg #[.int .i64 (t.kind : Int), .string ⟨t.text.toArray⟩, .int .i64 (t.n : Int), .int .i64 (t.place : Int)]) ∧ Below w.heap.size w w' := by
  cases o with
  | ok s =>
    obtain ⟨p, l, H, _, _, ht, _⟩ := QGood.tok H
    exact ⟨s.tok, fun s' e => (by injection e with e; subst e; rfl), q_now_rd H ht⟩
  | error f =>
    obtain ⟨p, l, h, dd, H, _⟩ := H
    obtain ⟨t, ht, _⟩ := getD_some H.here
    exact ⟨t, fun s' e => (by cases e), q_now_rd H ht⟩
set_option maxRecDepth 100000 in
set_option maxHeartbeats 4000000 in
theorem q_sees_ok {t : Tk} (b : List UInt8) (H : QRd B g L w R p dd l h 0 q) (ht : L[p]? = some t) :
    Calls Tryz.prog 50 #[.pointer (some ⟨g, 0, none⟩), .string ⟨b.toArray⟩] w fun en w' => en = .returned (.bool (sees t b)) ∧ Below w.heap.size w w' := by
  have HN : Hid (∀ w', Below w.heap.size w w' → Calls Tryz.prog 16 #[.pointer (some ⟨g, 0, none⟩)] w' fun en w'' => en = .returned (.agg #[.int .i64 (t.kind : Int), .string ⟨t.text.toArray⟩, .int .i64 (t.n : Int), .int .i64 (t.place : Int)]) ∧ Below w.heap.size w w'') := by
    intro w' hb
    exact (q_now_rd (H.below hb) ht).mono fun en w'' ⟨h1, h2⟩ => ⟨h1, hb.trans (h2.mono hb.size)⟩
  have c5 := H.c5
  have HB0 : Hid (Below w.heap.size w w) := Below.refl _ _
  obtain ⟨S, hS⟩ : ∃ S : ByteArray, S = ⟨t.text.toArray⟩ := ⟨_, rfl⟩
  obtain ⟨X, hX⟩ : ∃ X : ByteArray, X = ⟨b.toArray⟩ := ⟨_, rfl⟩
  have hs2 : (S.toList == X.toList) = (t.text == b) := by rw [hS, hX]; exact txt_eq _ _
  have hk3 : ((t.kind : Int) == 3) = (t.kind == 3) := by rw [Bool.eq_iff_iff]; simp; omega
  have hk4 : ((t.kind : Int) == 4) = (t.kind == 4) := by rw [Bool.eq_iff_iff]; simp; omega
  have hfd := field_at
  have hf0 : ∀ (a b c x : Value) (w : World), (Instr.field 49 (.agg #[a, b, c, x]) 0).run Tryz.prog w = .ok a w := fun _ _ _ _ _ => by kernel_rfl
  have hf1 : ∀ (a b c x : Value) (w : World), (Instr.field 49 (.agg #[a, b, c, x]) 1).run Tryz.prog w = .ok b w := fun _ _ _ _ _ => by kernel_rfl
  rw [← hS] at HN
  rw [← hX]
  clear hS hX H ht
  obtain ⟨K, hK⟩ : ∃ K : Int, K = t.kind := ⟨_, rfl⟩
  obtain ⟨N, hN⟩ : ∃ N : Int, N = t.n := ⟨_, rfl⟩
  obtain ⟨P, hP⟩ : ∃ P : Int, P = t.place := ⟨_, rfl⟩
  rw [← hK, ← hN, ← hP] at HN
  rw [← hK] at hk3 hk4
  have HSE : Hid (sees t b = ((t.kind == 3 || t.kind == 4) && t.text == b)) := rfl
  obtain ⟨V, hV⟩ : ∃ V, V = sees t b := ⟨_, rfl⟩
  rw [← hV] at HSE ⊢
  clear hK hN hP hV
  obtain ⟨b3, hb3⟩ : ∃ b3, b3 = (t.kind == 3) := ⟨_, rfl⟩
  obtain ⟨b4, hb4⟩ : ∃ b4, b4 = (t.kind == 4) := ⟨_, rfl⟩
  obtain ⟨bs, hbs⟩ : ∃ bs, bs = (t.text == b) := ⟨_, rfl⟩
  rw [← hb3, ← hb4, ← hbs] at HSE
  rw [← hb3] at hk3
  rw [← hb4] at hk4
  rw [← hbs] at hs2
  clear hb3 hb4 hbs
  go_enter Tryz.func50, Tryz.ntmps50
  go_wp2_with fail
  refine (HN.out w HB0.out).mono ?_
  rintro en w1 ⟨rfl, hb1⟩
  have HB1 := hidden hb1
  clear hb1
  cases b3 with
  | true =>
    go_wp2_with fail
    refine (HN.out w1 HB1.out).mono ?_
    rintro en w2 ⟨rfl, hb2⟩
    have HB2 := hidden hb2
    clear hb2
    cases bs <;> (go_wp2_with fail; go_ret; exact ⟨by rw [HSE.out]; rfl, HB2.out⟩)
  | false =>
    go_wp2_with fail
    refine (HN.out w1 HB1.out).mono ?_
    rintro en w2 ⟨rfl, hb2⟩
    have HB2 := hidden hb2
    clear hb2
    cases b4 with
    | false => go_wp2_with fail; go_ret; exact ⟨by rw [HSE.out]; rfl, HB2.out⟩
    | true =>
      go_wp2_with fail
      refine (HN.out w2 HB2.out).mono ?_
      rintro en w3 ⟨rfl, hb3⟩
      have HB3 := hidden hb3
      clear hb3
      cases bs <;> (go_wp2_with fail; go_ret; exact ⟨by rw [HSE.out]; rfl, HB3.out⟩)
set_option maxRecDepth 100000 in
theorem q_sees_bad {f : Flt} (b : List UInt8) (H : QBad B g L w R f) :
    Calls Tryz.prog 50 #[.pointer (some ⟨g, 0, none⟩), .string ⟨b.toArray⟩] w fun en w' => en = .returned (.bool false) ∧ w' = w := by
  obtain ⟨p, l, h, dd, H, hf⟩ := H
  have c5 := H.c5
  have hfb : ((f.1 : Int) == 0) = false := by simp; omega
  clear H hf
  go_enter Tryz.func50, Tryz.ntmps50
  go_wp2_with fail
  go_ret
  exact ⟨rfl, rfl⟩
theorem q_sees (b : List UInt8) (H : QAny B g L w R d o) :
    Calls Tryz.prog 50 #[.pointer (some ⟨g, 0, none⟩), .string ⟨b.toArray⟩] w fun en w' => ∃ c : Bool, en = .returned (.bool c) ∧ Below w.heap.size w w' ∧ ((c = true ∧ ∃ s, o = .ok s ∧ s.is b = true) ∨ (c = false ∧ ∀ s, o = .ok s → s.is b = false)) := by
  cases o with
  | ok s =>
    obtain ⟨p, l, H, _, _, ht, _⟩ := QGood.tok H
    refine (q_sees_ok b H ht).mono fun en w' ⟨h1, h2⟩ => ⟨s.is b, h1, h2, ?_⟩
    cases hb : s.is b with
    | true => exact .inl ⟨rfl, s, rfl, hb⟩
    | false => exact .inr ⟨rfl, fun s' e => by injection e with e; subst e; exact hb⟩
  | error f => exact (q_sees_bad b H).mono fun en w' ⟨h1, h2⟩ => ⟨false, h1, by rw [h2]; exact Below.refl _ _, .inr ⟨rfl, fun s' e => by cases e⟩⟩
/-- the next token is taken: a store -/
theorem QGood.take {s : PS} (H : QGood B g L w R d s) (hk : s.tok.kind ≠ 0) : ∃ p : Nat, w.cell? ⟨g, 1, none⟩ = Option.some (.int .i64 (p : Int)) ∧ w.frozen? ⟨g, 1, none⟩ = false ∧ p < 100000 ∧ QGood B g L (w.setCell ⟨g, 1, none⟩ (.int .i64 ((p : Int) + 1))) R d s.next ∧ Fr g w (w.setCell ⟨g, 1, none⟩ (.int .i64 ((p : Int) + 1))) R R := by
  obtain ⟨p, l, H, hr, hl, ht, hr2⟩ := QGood.tok H
  have hfin := H.fin p s.tok ht hk
  have hm := H.many
  refine ⟨p, H.c1, H.box.frozen 1, by omega, ⟨p + 1, l, ?_, hr2, hl⟩, Fr.store (B := B) (L := L) 1 _⟩
  have := H.store (i := 1) (u := .int .i64 ((p : Int) + 1)) (e' := 0) (q' := 0) (d' := (d : Int)) (p' := p + 1) rfl hfin (by have := H.few; omega)
  exact this
set_option maxRecDepth 100000 in
theorem q_eats (b : List UInt8) (H : QAny B g L w R d o) :
    Calls Tryz.prog 49 #[.pointer (some ⟨g, 0, none⟩), .string ⟨b.toArray⟩] w fun en w' => ∃ (c : Bool) (o' : Except Flt PS), en = .returned (.bool c) ∧ QAny B g L w' R d o' ∧ Fr g w w' R R ∧
      ((c = true ∧ ∃ s, o = .ok s ∧ s.is b = true ∧ o' = .ok s.next) ∨ (c = false ∧ o' = o ∧ ∀ s, o = .ok s → s.is b = false)) := by
  have HA := hidden H
  clear H
  go_enter Tryz.func49, Tryz.ntmps49
  go_wp2_with fail
  refine (q_sees b HA.out).mono ?_
  rintro en w1 ⟨c, rfl, hb, hc⟩
  have HB := hidden hb
  have HA1 := hidden (HA.out.below hb)
  clear hb
  rcases hc with ⟨rfl, s, hs, hb⟩ | ⟨rfl, hb⟩
  · have HS := hidden hs
    have HBB := hidden hb
    have HG : Hid (QGood B g L w1 R d s) := by have := HA1.out; rw [hs] at this; exact this
    obtain ⟨p, c1, f1, hp, hg, hf⟩ := HG.out.take (sees_nz hb)
    have HG1 := hidden hg
    have HF1 := hidden hf
    clear hs hb hg hf
    go_wp2_with fail
    go_ret
    exact ⟨true, .ok s.next, rfl, HG1.out, (Fr.of_below R HB.out).trans HF1.out, .inl ⟨rfl, s, HS.out, HBB.out, rfl⟩⟩
  · have HBB := hidden hb
    clear hb
    go_wp2_with fail
    go_ret
    exact ⟨false, o, rfl, HA1.out, Fr.of_below R HB.out, .inr ⟨rfl, rfl, HBB.out⟩⟩
set_option maxRecDepth 100000 in
theorem q_must (b : List UInt8) (H : QAny B g L w R d o) :
    Calls Tryz.prog 17 #[.pointer (some ⟨g, 0, none⟩), .string ⟨b.toArray⟩] w fun en w' => (∃ v, en = .returned v) ∧ QAny B g L w' R d (needO b o) ∧ Fr g w w' R R := by
  have HA := hidden H
  have hfd := field_at
  clear H
  go_enter Tryz.func17, Tryz.ntmps17
  go_wp2_with fail
  refine (q_eats b HA.out).mono ?_
  rintro en w1 ⟨c, o', rfl, ha, hf, hc⟩
  have HA1 := hidden ha
  have HF1 := hidden hf
  clear ha hf
  rcases hc with ⟨rfl, s, hs, hb, ho⟩ | ⟨rfl, ho, hb⟩
  · have HZ : Hid (needO b o = o') := by rw [hs, ho]; exact needO_yes hb
    clear hs hb ho
    go_wp2_with fail
    go_end0
    exact ⟨⟨_, rfl⟩, by rw [HZ.out]; exact HA1.out, HF1.out⟩
  · rw [ho] at HA1
    have HBB := hidden hb
    obtain ⟨t, ht, hcall⟩ := q_now HA1.out
    have HT := hidden ht
    have HC := hidden hcall
    clear ht hcall ho hb
    obtain ⟨K, hK⟩ : ∃ K : Nat, K = t.kind := ⟨_, rfl⟩
    obtain ⟨X, hX⟩ : ∃ X : ByteArray, X = ⟨t.text.toArray⟩ := ⟨_, rfl⟩
    obtain ⟨N, hN⟩ : ∃ N : Nat, N = t.n := ⟨_, rfl⟩
    obtain ⟨P, hP⟩ : ∃ P : Nat, P = t.place := ⟨_, rfl⟩
    rw [← hK, ← hX, ← hN, ← hP] at HC
    have HP := hidden hP
    clear hK hX hN hP
    go_wp2_with fail
    refine HC.out.mono ?_
    rintro en w2 ⟨rfl, hb2⟩
    have HA2 := hidden (HA1.out.below hb2)
    have HF2 := hidden (HF1.out.trans (Fr.of_below R hb2))
    clear hb2
    go_wp2_with fail
    refine (q_fail 8 P (by decide) HA2.out).mono ?_
    rintro en w3 ⟨⟨v, rfl⟩, ha, hf⟩
    have HA3 := hidden ha
    have HF3 := hidden (HF2.out.trans hf)
    clear ha hf
    go_wp2_with fail
    go_end0
    refine ⟨⟨_, rfl⟩, ?_, HF3.out⟩
    have h1 := HA3.out
    cases o with
    | error f => exact h1
    | ok s => rw [needO_no (HBB.out s rfl)]; have h2 := HT.out s rfl; rw [← h2, ← HP.out]; exact h1
set_option maxRecDepth 100000 in
theorem q_opens_ok {s : PS} (a : Nat) (H : QGood B g L w R d s) (hd : d ≤ 1000) :
    Calls Tryz.prog 51 #[.pointer (some ⟨g, 0, none⟩), .int .i64 (a : Int)] w fun en w' => (∃ v, en = .returned v) ∧ QAny B g L w' R (d + 1) (openO d a (.ok s)) ∧ Fr g w w' R R := by
  obtain ⟨p, l, H, hr, hl⟩ := H
  have c2 := H.c2
  have f2 := H.box.frozen 2
  obtain ⟨W, hW⟩ : ∃ W, W = w.setCell ⟨g, 2, none⟩ (.int .i64 ((d : Int) + 1)) := ⟨_, rfl⟩
  have hst := H.store (i := 2) (u := .int .i64 ((d : Int) + 1)) (e' := 0) (q' := 0) (d' := (d : Int) + 1) (p' := p) rfl H.here H.few
  rw [← hW] at hst
  have HG : Hid (QGood B g L W R (d + 1) s) := ⟨p, l, hst, hr, hl⟩
  have HF : Hid (Fr g w W R R) := by rw [hW]; exact Fr.store (B := B) (L := L) 2 _
  have d2 := hst.c2
  clear H hst
  go_enter Tryz.func51, Tryz.ntmps51
  rw [veil 1]
  by_cases h2 : 200 ≤ d
  · have h2i : (200 : Int) < (d : Int) + 1 := by omega
    go_wp2_with fail
    rw [← hW]
    clear hW c2 f2
    refine wp_veil ?_
    go_wp2_with fail
    refine (q_fail 4 a (by decide) (show QAny B g L W R (d + 1) (.ok s) from HG.out)).mono ?_
    rintro en w3 ⟨⟨v, rfl⟩, ha, hf⟩
    have HA3 := hidden ha
    have HF3 := hidden (HF.out.trans hf)
    clear ha hf
    go_wp2_with fail
    go_end0
    exact ⟨⟨_, rfl⟩, by rw [openO_no h2]; exact HA3.out, HF3.out⟩
  · have h2i : ¬ (200 : Int) < (d : Int) + 1 := by omega
    go_wp2_with fail
    rw [← hW]
    clear hW c2 f2
    refine wp_veil ?_
    go_wp2_with fail
    go_end0
    exact ⟨⟨_, rfl⟩, by rw [openO_yes h2]; exact HG.out, HF.out⟩
end Go.Proofs.YtagacfcpepoaoaaGreatDoor

namespace Go.Proofs.YtagacfcpepoaoaaGreatDoor
open Go.RowKit
set_option linter.unusedVariables false

variable {B g : Nat} {L : List Tk} {w : World} {R : Bx} {p d : Nat} {l : List Nd} {h : List Nat}
theorem drewN_add (W : World) (a b : Nat) : (W.drewN a).drewN b = W.drewN (a + b) := by
  cases W
  simp [World.drewN, Nat.add_assoc]
def QLaid (B g : Nat) (L : List Tk) (w : World) (R : Bx) (p : Nat) (d : Nat) (l : List Nd) (h : List Nat) (x : Nd) (at0 : Nat) (en : Ending) (w' : World) : Prop :=
  (high h x.kids ≤ 200 ∧ en = .returned (.int .i64 (l.length : Int)) ∧ ∃ R' y, R'.Z = R.Z ∧ bare y = bare x ∧ QRd B g L w' R' p (d : Int) (l ++ [y]) (h ++ [high h x.kids]) 0 0 ∧ Fr g w w' R R') ∨
  (200 < high h x.kids ∧ en = .returned (.int .i64 (-1)) ∧ QBad B g L w' R (4, at0) ∧ Fr g w w' R R)
set_option maxRecDepth 100000 in
set_option maxHeartbeats 8000000 in
theorem q_lay_rd (x : Nd) (at0 : Nat) (H : QRd B g L w R p (d : Int) l h 0 0) (hk : Now B w (kidV x) x.kids) (hoff : (kidV x).ownBlock = none ∨ (kidV x).ownBlock ≠ R.vh.ownBlock) (hz : ∀ k, R.Z k → (kidV x).ownBlock ≠ some k) (hval : ∀ k ∈ x.kids, 0 ≤ k ∧ k < (h.length : Int)) (hf : l.length ≤ p) (hn : x.kids.length ≤ 100000) (ha : x.at_ = (at0 : Int)) :
    Calls Tryz.prog 23 #[.pointer (some ⟨g, 0, none⟩), .agg #[.int .i64 x.kind, .slice x.ka x.kids.length x.kc, .int .i64 x.n, .string x.s, .int .i64 x.at_]] w (QLaid B g L w R p d l h x at0) := by
  have hpm : p < 100000 := by have := H.here; have := H.many; omega
  have hlen := H.len
  have HH := hidden H
  have HK := hidden hk
  have HOFF := hidden hoff
  have HZON := hidden hz
  have HVAL := hidden hval
  have HAT0 := hidden ha
  have HLOW := hidden H.low
  have HLEN := hidden hlen
  obtain ⟨ka, cap, hkv, hrow, _⟩ := hk.shape
  have hka : x.ka = ka := by unfold kidV at hkv; injection hkv
  rw [← hka] at hrow
  have HROW := hidden hrow
  obtain ⟨ha', hc, hvh, hhr, _⟩ := H.hts.shape
  rw [List.length_map] at hvh hhr
  have HVH := hidden hvh
  have HHR := hidden hhr
  clear H hk hkv hrow hka hvh hhr hlen hoff hz hval ha
  obtain ⟨M, hM⟩ : ∃ M, M = x.kids.length := ⟨_, rfl⟩
  rw [← hM] at hn HROW ⊢
  have HM := hidden hM
  clear hM
  obtain ⟨hl, hhl⟩ : ∃ hl, hl = h.length := ⟨_, rfl⟩
  rw [← hhl] at HVH HHR HVAL
  have HHL := hidden hhl
  have hhl2 : hl ≤ 100000 := by have := HLEN.out; omega
  clear hhl
  obtain ⟨Z, hZ⟩ : ∃ Z, Z = high h x.kids := ⟨_, rfl⟩
  have HZ : Hid (Z = x.kids.foldl (hstep h) 1) := hZ
  have HZ' := hidden hZ
  clear hZ
  go_enter Tryz.func23, Tryz.ntmps23
  rw [veil 1, veil 12]
  go_wp2_with fail
  obtain ⟨W, hW⟩ : ∃ W, W = w.alloc (.cells #[.int .i64 x.kind, .slice x.ka M x.kc, .int .i64 x.n, .string x.s, .int .i64 x.at_] 59) := ⟨_, rfl⟩
  have HB : Hid (Below w.heap.size w W) := by rw [hW]; exact (Below.refl _ _).alloc (Nat.le_refl _) _
  obtain ⟨G, hG⟩ : ∃ G, G = w.heap.size := ⟨_, rfl⟩
  have HG : Hid (Held W G 59 #[.int .i64 x.kind, .slice x.ka M x.kc, .int .i64 x.n, .string x.s, .int .i64 x.at_]) := by rw [hW, hG]; exact Held.new _ _ _
  rw [← hW, ← hG]
  have HGE := hidden hG
  clear hW hG
  refine wp_veil ?_
  go_wp2_with fail
  go_loopw [5, 6] (fun t5 t6 wr => ∃ i a n : Nat, i ≤ M ∧ a ≤ 201 ∧ t6 = .int .i64 (i : Int) ∧ t5 = .int .i64 (a : Int) ∧ wr = W.drewN n ∧ Hid (a = (x.kids.take i).foldl (hstep h) 1)) (fun _ t6 _ => M - (intOf t6).toNat)
  case atStart => exact ⟨0, 1, 0, by omega, by omega, rfl, rfl, rfl, rfl⟩
  case round =>
    obtain ⟨i, a, n0, hi, ha1, rfl, rfl, hwr, HA⟩ := hrel
    have HWR := hidden hwr
    have HBR : Hid (Below w.heap.size w wr) := by rw [hwr]; exact HB.out.trans ((below_drewN W n0 _).mono HB.out.size)
    have HGR : Hid (Held wr G 59 #[.int .i64 x.kind, .slice x.ka M x.kc, .int .i64 x.n, .string x.s, .int .i64 x.at_]) := by rw [hwr]; exact HG.out.block rfl
    have z1 : wr.cell? ⟨G, 1, none⟩ = some (.slice x.ka M x.kc) := HGR.out.at_ rfl
    have c5 := (HH.out.below HBR.out).c5
    clear hwr
    by_cases him : i < M
    · have himi : (i : Int) < (M : Int) := by omega
      obtain ⟨kb, ko, hka, hkb, hkc⟩ := (HROW.out.below HBR.out) (by omega)
      have hci := hkc i him
      simp only at hci
      rw [hka] at z1 ⊢
      have HX : Hid (i < x.kids.length) := by show i < _; rw [← HM.out]; exact him
      obtain ⟨k, hkk⟩ : ∃ k, k = x.kids.getD i 0 := ⟨_, rfl⟩
      rw [← hkk] at hci
      have HKK := hidden hkk
      have hkm : k ∈ x.kids := by rw [hkk, List.getD_eq_getElem?_getD, List.getElem?_eq_getElem HX.out]; exact List.getElem_mem _
      obtain ⟨hk0, hkl0⟩ := HVAL.out k hkm
      clear hkk hkc hka hkb hkm
      have HA2 : Hid (hstep h a k = (x.kids.take (i + 1)).foldl (hstep h) 1) := by show _ = _; rw [take_fold HX.out, ← HA.out, HKK.out]
      have HA3 := hidden (hstep_le HLOW.out ha1 k)
      obtain ⟨u, hu⟩ : ∃ u : Nat, k = u := ⟨k.toNat, by omega⟩
      subst hu
      have hkl : u < hl := by omega
      have c4 := (HH.out.below HBR.out).c4
      rw [HVH.out] at c4
      obtain ⟨hb, ho, hha, hhb, hhc⟩ := (HHR.out.below HBR.out) (by omega)
      have hcu := hhc u hkl
      simp only at hcu
      obtain ⟨v, hv⟩ : ∃ v, v = h.getD u 0 := ⟨_, rfl⟩
      have hul : u < h.length := by rw [← HHL.out]; exact hkl
      have hv2 : (h.map Int.ofNat).getD u 0 = (v : Int) := by
        rw [hv, List.getD_eq_getElem?_getD, List.getElem?_map, List.getElem?_eq_getElem hul, List.getD_eq_getElem?_getD, List.getElem?_eq_getElem hul]
        rfl
      rw [hv2] at hcu
      have hvl : v ≤ 200 := by
        rw [hv, List.getD_eq_getElem?_getD, List.getElem?_eq_getElem hul]
        exact HLOW.out _ (List.getElem_mem _)
      have HS : Hid (hstep h a (u : Int) = max a (v + 1)) := by
        show hstep h a (u : Int) = max a (v + 1)
        unfold hstep
        rw [if_pos ⟨by omega, by omega⟩, hv]
        rfl
      rw [hha] at c4
      have hwv : IntKind.i64.wrap (1 + (v : Int)) = 1 + (v : Int) := Go.IntWalk.i64_in _ (by omega)
      clear hv hv2 hul hhc hha hhb
      rcases (show a < v + 1 ∨ v + 1 < a ∨ a = v + 1 by omega) with hlt | hgt | heq
      · have h1 : (a : Int) < 1 + (v : Int) := by omega
        go_wp2_with fail
        go_quiet (fail)
        go_wp2_with fail
        go_roundw
        case rel => exact ⟨i + 1, v + 1, n0 + nq, by omega, by omega, by go_num, by go_num, by rw [HWR.out]; exact drewN_add _ _ _, (by show _ = _; rw [← HA2.out, HS.out]; omega)⟩
        case measure => simp [intOf]; omega
      · have h1 : ¬ (a : Int) < 1 + (v : Int) := by omega
        have h2 : 1 + (v : Int) < (a : Int) := by omega
        go_wp2_with fail
        go_quiet (fail)
        go_wp2_with fail
        go_roundw
        case rel => exact ⟨i + 1, a, n0 + nq, by omega, by omega, by go_num, by go_num, by rw [HWR.out]; exact drewN_add _ _ _, (by show _ = _; rw [← HA2.out, HS.out]; omega)⟩
        case measure => simp [intOf]; omega
      · subst heq
        have e1 : ((v + 1 : Nat) : Int) = 1 + (v : Int) := by omega
        go_wp2_with fail
        go_quiet (fail)
        go_wp2_with fail
        go_roundw
        case rel => exact ⟨i + 1, v + 1, n0 + nq, by omega, by omega, by go_num, by go_num, by rw [HWR.out]; exact drewN_add _ _ _, (by show _ = _; rw [← HA2.out, HS.out]; omega)⟩
        case measure => simp [intOf]; omega
    · obtain ⟨ei⟩ : Nonempty (i = M) := ⟨by omega⟩
      have himi : ¬ (i : Int) < (M : Int) := by omega
      have HAZ : Hid (a = Z) := by
        show a = Z
        rw [HA.out, HZ.out, ei, HM.out, List.take_length]
      clear ei
      by_cases hbig : 200 < a
      · have hbigi : (200 : Int) < (a : Int) := by omega
        have z4 : wr.cell? ⟨G, 4, none⟩ = some (.int .i64 (at0 : Int)) := by rw [← HAT0.out]; exact HGR.out.at_ rfl
        have HQ : Hid (QAny B g L wr R d (.ok ⟨L.drop p, l.map bare, h⟩)) := ⟨p, l, HH.out.below HBR.out, rfl, rfl⟩
        go_wp2_with fail
        refine (q_fail 4 at0 (by decide) HQ.out).mono ?_
        rintro en w3 ⟨⟨v, rfl⟩, hbd, hfr⟩
        have HBD : Hid (QBad B g L w3 R (4, at0)) := hbd
        have HFR := hidden ((Fr.of_below R HBR.out).trans hfr)
        clear hbd hfr c5
        obtain ⟨p1, l1, h1, dd1, H1, _⟩ := HBD.out
        have c5 : w3.cell? ⟨g, 5, none⟩ = some (.int .i64 4) := H1.c5
        clear H1
        go_wp2_with fail
        go_ret
        exact .inr ⟨by rw [← HZ'.out, ← HAZ.out]; exact hbig, rfl, HBD.out, HFR.out⟩
      · have hbigi : ¬ (200 : Int) < (a : Int) := by omega
        obtain ⟨W2, hW2⟩ : ∃ W2, W2 = wr := ⟨_, rfl⟩
        have HB2 : Hid (Below w.heap.size w W2) := by rw [hW2]; exact HBR.out
        have HG2 : Hid (Held W2 G 59 #[.int .i64 x.kind, .slice x.ka M x.kc, .int .i64 x.n, .string x.s, .int .i64 x.at_]) := by rw [hW2]; exact HGR.out
        rw [← hW2] at c5 z1 ⊢
        clear hW2
        have HYC : Hid (x.cs.toList = [.int .i64 x.kind, .slice x.ka M x.kc, .int .i64 x.n, .string x.s, .int .i64 x.at_]) := by rw [HM.out]; rfl
        have HNK : Hid (Now B w (kidV x) x.kids) := HK.out
        have HC2 := hidden (HH.out.toQCore.below HB2.out)
        have HNK2 : Hid (Now B W2 (kidV x) x.kids) := own_below HK.out HB2.out
        have c3 := HC2.out.c3
        have f3 := HC2.out.box.frozen 3
        obtain ⟨vn, hvn⟩ : ∃ vn, vn = R.vn := ⟨_, rfl⟩
        have hOWN := HC2.out.own
        rw [← hvn] at c3 hOWN
        have HOWN := hidden hOWN
        have HVN := hidden hvn
        have y0 : W2.cell? ⟨G, 0, none⟩ = some (.int .i64 x.kind) := HG2.out.at_ rfl
        have y1 : W2.cell? ⟨G, 1, none⟩ = some (.slice x.ka M x.kc) := HG2.out.at_ rfl
        have y2 : W2.cell? ⟨G, 2, none⟩ = some (.int .i64 x.n) := HG2.out.at_ rfl
        have y3 : W2.cell? ⟨G, 3, none⟩ = some (.string x.s) := HG2.out.at_ rfl
        have y4 : W2.cell? ⟨G, 4, none⟩ = some (.int .i64 x.at_) := HG2.out.at_ rfl
        have hB2 : B ≤ W2.heap.size := by have h1 := HC2.out.old; have h2 := HC2.out.box.lt; omega
        have hglt : g < W2.heap.size := HC2.out.box.lt
        have hGlt : G < W2.heap.size := HG2.out.lt
        clear hOWN hvn z1
        obtain ⟨i0, hi0, hz0, hz1, hz2⟩ := info_parts infoN
        have HI0 := hidden hi0
        have HZ0 := hidden hz0
        have HZ1 := hidden hz1
        have HZ2 := hidden hz2
        clear hi0 hz0 hz1 hz2
        go_wp2_with fail
        go_region_law ((refine step_append_lies _ (by rfl) _ _ _ (by rfl) B 59 i0 (.agg #[.int .i64 0, .slice none 0 0, .int .i64 0, .string ⟨#[]⟩, .int .i64 0]) 5 64 Tryz.underlying23 HI0.out HZ0.out HZ1.out HZ2.out rfl (by omega) vn l.length (ndCells l) (by rfl) ((HOWN.out.alloc _).drew) ⟨W2.heap.size, 0, none⟩ 1 1 [.int .i64 x.kind, .slice x.ka M x.kc, .int .i64 x.n, .string x.s, .int .i64 x.at_] (by rfl) (by rfl) (World.news_of_block (cs := #[.int .i64 x.kind, .slice x.ka M x.kc, .int .i64 x.n, .string x.s, .int .i64 x.at_]) (t := 59) (fr := (0, 0)) (heap_alloc_new W2 _)) (by simp [Value.oneCell']) (by omega) (by unfold maxLen; omega) (by omega) (by simp; omega) (W2.heap.size + 1) (by simp) ?_; intro gg cap w3 hown3 hgrow hat hlt; have HG3 := hidden hgrow; have HO3 := hidden hown3; have HAT := hidden hat; have hbx := HC2.out.box.block (w' := w3) ((hgrow.block g (by have := HC2.out.box.lt; simp; omega) (fun e => own_ne HOWN.out HC2.out.box (by decide) e.symm)).trans (heap_alloc_old W2 _ HC2.out.box.lt)); have b3 : w3.cell? ⟨g, 3, none⟩ = some R.vn := hbx.at_ rfl; have f3 := hbx.frozen 3; clear hbx hown3 hgrow hat hlt))
        all_goals
          have hPN := HC2.out.node (W1 := (W2.alloc (.cells #[.int .i64 x.kind, .slice x.ka M x.kc, .int .i64 x.n, .string x.s, .int .i64 x.at_] 59)).drew) (y := x) (v3 := .slice (some ⟨gg, 0, none⟩) (l.length + 1) cap) ((Below.refl _ _).alloc (Nat.le_refl _) _).drew (by rw [HYC.out]; exact HO3.out) (by rw [← HVN.out]; exact HG3.out) (fun k hk => by
            have e : gg = k := by simpa [Value.ownBlock] using hk
            subst e
            rcases HAT.out with h1 | h1
            · exact .inl (by rw [← HVN.out]; exact h1)
            · exact .inr (by omega)) HNK2.out HOFF.out HZON.out
          obtain ⟨W4, hW4⟩ : ∃ W4, W4 = w3.setCell ⟨g, 3, none⟩ (.slice (some ⟨gg, 0, none⟩) (l.length + 1) cap) := ⟨_, rfl⟩
          rw [← hW4] at hPN ⊢
          have HC4 := hidden hPN.1
          have HF4 := hidden ((Fr.of_below R HB2.out).trans hPN.2)
          clear hPN hW4 b3 f3 c3 y0 y1 y2 y3 y4 hglt hGlt HG3 HO3 HAT
          have c4 := HC4.out.c4
          have f4 := HC4.out.box.frozen 4
          obtain ⟨vh, hvh⟩ : ∃ vh, vh = R.vh := ⟨_, rfl⟩
          have hHT := HC4.out.hts
          rw [← hvh] at c4 hHT
          have HHT := hidden hHT
          have HVV := hidden hvh
          have hglt : g < W4.heap.size := HC4.out.box.lt
          have hB4 : B ≤ W4.heap.size := by have h4 := HC4.out.old; omega
          clear hHT hvh
          have HHM : Hid ((h.map Int.ofNat).length ≤ 100000) := by show _ ≤ _; rw [List.length_map, ← HHL.out]; exact hhl2
          rw [HVH.out] at HVV
          go_wp2_with (at_builtin; refine wpList_kid rfl (.tmp 62) (.tmp 64) rfl B W4 vh (h.map Int.ofNat) (a : Int) rfl rfl HHT.out hB4 (by have := HHM.out; omega) ?_; intro v5 w5 hr5 hg5 hw5; have hbx := HC4.out.box.block (w' := w5) ((hg5.block g (by simp; omega) (fun e => own_ne HHT.out HC4.out.box (by decide) e.symm)).trans (heap_alloc_old W4 _ (by omega))); have b4 : w5.cell? ⟨g, 4, none⟩ = some R.vh := hbx.at_ rfl; have f4 := hbx.frozen 4; have HR5 := hidden hr5; have HG5 := hidden hg5; have HW5 := hidden hw5; obtain ⟨ga, gc, hv5⟩ := own_shape5 hr5; rw [List.length_append, List.length_map, ← HHL.out, List.length_singleton] at hv5; subst hv5; clear hbx hr5 hg5 hw5)
          have hPH := HC4.out.height (W1 := W4.alloc (.cells #[.int .i64 (a : Int)] 3)) (z := a) (v3 := .slice ga (hl + 1) gc) ((Below.refl _ _).alloc (Nat.le_refl _) _) (by rw [List.map_append]; exact HR5.out) (by show World.grownBy _ _ R.vh.ownBlock; rw [HVH.out, ← HVV.out]; exact HG5.out) (fun k hk => by
            rcases HW5.out k hk with h1 | h1
            · exact .inl (by show R.vh.ownBlock = _; rw [HVH.out, ← HVV.out]; exact h1)
            · exact .inr (by rw [h1]; simp))
          obtain ⟨W6, hW6⟩ : ∃ W6, W6 = w5.setCell ⟨g, 4, none⟩ (.slice ga (hl + 1) gc) := ⟨_, rfl⟩
          rw [← hW6] at hPH ⊢
          have HC6 := hidden hPH.1
          have HF6 := hidden (HF4.out.trans hPH.2)
          have c3 := HC6.out.c3
          clear hPH hW6 b4 f4 c4 HG5 HR5 HW5
          simp only at c3
          refine wp_veil ?_
          go_wp2_with fail
          go_ret
          refine .inl ⟨by rw [← HZ'.out, ← HAZ.out]; omega, by first | rfl | (congr 2; omega), ⟨R.tb, R.tc, .slice (some ⟨gg, 0, none⟩) (l.length + 1) cap, .slice ga (hl + 1) gc, R.Z⟩, x, rfl, rfl, ⟨?_, ?_, HH.out.here, ?_, ?_⟩, HF6.out⟩
          · rw [← HZ'.out, ← HAZ.out]; exact HC6.out
          · rw [List.length_append, List.length_append, HLEN.out]; rfl
          · rw [List.length_append]; show l.length + 1 ≤ p + 1; omega
          · intro u hu
            rcases List.mem_append.1 hu with hu | hu
            · exact HLOW.out u hu
            · rw [List.mem_singleton.1 hu, ← HZ'.out, ← HAZ.out]; omega
end Go.Proofs.YtagacfcpepoaoaaGreatDoor
