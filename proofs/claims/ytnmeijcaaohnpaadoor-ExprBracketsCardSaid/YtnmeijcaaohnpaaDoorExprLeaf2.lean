/- The walks through the reader's Skip, Fail, Want, Name, Open, Close. -/
import Derived.Test.YtnmeijcaaohnpaaDoorExprLeaf
namespace Go.Proofs.YtnmeijcaaohnpaaDoor
open Go.RowKit
set_option linter.unusedVariables false

variable {B g : Nat} {L : List Tk} {w : World} {R : Bx} {p : Nat} {d e q : Int} {l : List Nd} {h : List Nat}
/-- a reader, after a call -/
def Turned (B g : Nat) (L : List Tk) (w : World) (R : Bx) (p : Nat) (d : Int) (l : List Nd) (h : List Nat) (e q : Int) (w' : World) : Prop := Rd B g L w' R p d l h e q ∧ Fr g w w' R R
theorem Turned.of_below {w' : World} (H : Rd B g L w R p d l h e q) (hb : Below w.heap.size w w') : Turned B g L w R p d l h e q w' := ⟨H.below hb, Fr.of_below R hb⟩
theorem Turned.then {w1 w2 : World} {p1 p2 : Nat} {d1 e1 q1 d2 e2 q2 : Int} {l1 l2 : List Nd} {h1 h2 : List Nat} (a : Turned B g L w R p1 d1 l1 h1 e1 q1 w1) (b : Turned B g L w1 R p2 d2 l2 h2 e2 q2 w2) : Turned B g L w R p2 d2 l2 h2 e2 q2 w2 := ⟨b.1, a.2.trans b.2⟩
theorem Turned.quiet {w1 w2 : World} {p1 : Nat} {d1 e1 q1 : Int} {l1 : List Nd} {h1 : List Nat} (a : Turned B g L w R p1 d1 l1 h1 e1 q1 w1) (b : Below w1.heap.size w1 w2) : Turned B g L w R p1 d1 l1 h1 e1 q1 w2 := a.then (Turned.of_below a.1 b)
theorem sees_kind {t : Tk} {b : List UInt8} (h : sees t b = true) : t.kind ≠ 0 := by
  unfold sees at h
  simp at h
  omega
/-- a token is taken -/
theorem Rd.take {t : Tk} (H : Rd B g L w R p d l h e q) (ht : L[p]? = some t) (hk : t.kind ≠ 0) (u : Value) (hu : u = .int .i64 ((p : Int) + 1)) : Turned B g L w R (p + 1) d l h e q (w.setCell ⟨g, 1, none⟩ u) := by
  subst hu
  have := H.few
  exact ⟨H.store rfl (H.fin p t ht hk) (by omega), Fr.store (B := B) (L := L) 1 _⟩
theorem skip_yes {t : Tk} (b : List UInt8) (H : Rd B g L w R p d l h 0 q) (ht : L[p]? = some t) (hs : sees t b = true) :
    Calls Tryd.prog 48 #[.pointer (some ⟨g, 0, none⟩), .string ⟨b.toArray⟩] w fun en w' => en = .returned (.bool true) ∧ Turned B g L w R (p + 1) d l h 0 q w' := by
  have hI := is_ok b H ht
  rw [hs] at hI
  obtain ⟨X, hX⟩ : ∃ X : ByteArray, X = ⟨b.toArray⟩ := ⟨_, rfl⟩
  rw [← hX] at hI ⊢
  have HI := hidden hI
  have HH := hidden H
  have HT := hidden ht
  have HS := hidden hs
  have hm : p < 100000 := by have := H.here; have := H.many; omega
  clear hI H ht hs hX
  go_enter Tryd.func48, Tryd.ntmps48
  go_wp2_with fail
  refine HI.out.mono ?_
  rintro en w1 ⟨rfl, hb1⟩
  have HH1 := hidden (HH.out.below hb1)
  have c1 := HH1.out.c1
  have f1 := HH1.out.box.frozen 1
  have HB1 := hidden hb1
  clear hb1
  go_wp2_with fail
  go_ret
  exact ⟨rfl, (Turned.of_below HH.out HB1.out).then (HH1.out.take HT.out (sees_kind HS.out) _ (by go_num))⟩
theorem skip_no {t : Tk} (b : List UInt8) (H : Rd B g L w R p d l h 0 q) (ht : L[p]? = some t) (hs : sees t b = false) :
    Calls Tryd.prog 48 #[.pointer (some ⟨g, 0, none⟩), .string ⟨b.toArray⟩] w fun en w' => en = .returned (.bool false) ∧ Below w.heap.size w w' := by
  have hI := is_ok b H ht
  rw [hs] at hI
  obtain ⟨X, hX⟩ : ∃ X : ByteArray, X = ⟨b.toArray⟩ := ⟨_, rfl⟩
  rw [← hX] at hI ⊢
  have HI := hidden hI
  clear hI H ht hs hX
  go_enter Tryd.func48, Tryd.ntmps48
  go_wp2_with fail
  refine HI.out.mono ?_
  rintro en w1 ⟨rfl, hb1⟩
  have HB1 := hidden hb1
  clear hb1
  go_wp2_with fail
  go_ret
  exact ⟨rfl, HB1.out⟩
theorem skip_bad (b : List UInt8) (H : Rd B g L w R p d l h e q) (he : e ≠ 0) :
    Calls Tryd.prog 48 #[.pointer (some ⟨g, 0, none⟩), .string ⟨b.toArray⟩] w fun en w' => en = .returned (.bool false) ∧ Below w.heap.size w w' := by
  have hI := is_bad b H he
  obtain ⟨X, hX⟩ : ∃ X : ByteArray, X = ⟨b.toArray⟩ := ⟨_, rfl⟩
  rw [← hX] at hI ⊢
  have HI := hidden hI
  clear hI H he hX
  go_enter Tryd.func48, Tryd.ntmps48
  go_wp2_with fail
  refine HI.out.mono ?_
  rintro en w1 ⟨rfl, hb1⟩
  have HB1 := hidden hb1
  clear hb1
  go_wp2_with fail
  go_ret
  exact ⟨rfl, HB1.out⟩
theorem fail_ok (x y : Int) (hx : x ≠ 0) (H : Rd B g L w R p d l h 0 q) :
    Calls Tryd.prog 19 #[.pointer (some ⟨g, 0, none⟩), .int .i64 x, .int .i64 y] w fun en w' => (∃ v, en = .returned v) ∧ Turned B g L w R p d l h x y w' := by
  have hx' : (x != 0) = true := by simpa using hx
  have c5 := H.c5
  have c6 := H.c6
  have f5 := H.box.frozen 5
  have f6 := H.box.frozen 6
  have HH := hidden H
  clear H hx
  go_enter Tryd.func19, Tryd.ntmps19
  go_wp2_with fail
  refine (isWrong_ok HH.out).mono ?_
  rintro en w1 ⟨rfl, hw1⟩
  rw [hw1]; clear hw1 w1
  go_wp2_with fail
  go_end0
  refine ⟨⟨_, rfl⟩, ?_, ?_⟩
  · have h1 := HH.out.store (i := 5) (u := .int .i64 x) (e' := x) (q' := q) (d' := d) (p' := p) rfl HH.out.here HH.out.few
    exact h1.store (i := 6) (u := .int .i64 y) (e' := x) (q' := y) (d' := d) (p' := p) rfl HH.out.here HH.out.few
  · exact (Fr.store (B := B) (L := L) 5 _).trans (Fr.store (B := B) (L := L) 6 _)
theorem fail_bad (x y : Int) (H : Rd B g L w R p d l h e q) (he : e ≠ 0) (hx : x ≠ 0) :
    Calls Tryd.prog 19 #[.pointer (some ⟨g, 0, none⟩), .int .i64 x, .int .i64 y] w fun en w' => (∃ v, en = .returned v) ∧ w' = w := by
  have hx' : (x != 0) = true := by simpa using hx
  have HH := hidden H
  have HE := hidden he
  clear H hx he
  go_enter Tryd.func19, Tryd.ntmps19
  go_wp2_with fail
  refine (isWrong_bad HH.out HE.out).mono ?_
  rintro en w1 ⟨rfl, hw1⟩
  rw [hw1]; clear hw1 w1
  go_wp2_with fail
  go_end0
  exact ⟨⟨_, rfl⟩, rfl⟩
theorem close_any (H : Rd B g L w R p d l h e q) (hd : -1000000 ≤ d ∧ d ≤ 1000000) :
    Calls Tryd.prog 51 #[.pointer (some ⟨g, 0, none⟩)] w fun en w' => (∃ v, en = .returned v) ∧ Turned B g L w R p (d - 1) l h e q w' := by
  have c2 := H.c2
  have f2 := H.box.frozen 2
  obtain ⟨hd1, hd2⟩ := hd
  have HH := hidden H
  clear H
  go_enter Tryd.func51, Tryd.ntmps51
  go_wp2_with fail
  go_end0
  refine ⟨⟨_, rfl⟩, ?_, Fr.store (B := B) (L := L) 2 _⟩
  exact HH.out.store (i := 2) (e' := e) (q' := q) (d' := d - 1) (p' := p) (by first | rfl | (congr 2)) HH.out.here HH.out.few
end Go.Proofs.YtnmeijcaaohnpaaDoor
