/- ExprLeaf, ExprLeaf2, ExprLeaf3, in one text. -/
import Derived.Test.YtagacfcpepoaoaaGreatDoorMMem
import Derived.Test.YtagacfcpepoaoaaGreatDoorMGen
import Derived.StillTailTactics
import Derived.Deep.QuietTactic
import Derived.BigQuiet
import Derived.IntWalk
namespace Go.Proofs.YtagacfcpepoaoaaGreatDoor
open Go.RowKit
set_option linter.unusedVariables false

variable {B g : Nat} {L : List Tk} {w : World} {R : Bx} {p : Nat} {d e q : Int} {l : List Nd} {h : List Nat}
theorem four_told {w V : World} {A : Nat} {t : TypeId} {a0 b0 c0 x0 : Value} (h : Held V A t #[a0, b0, c0, x0]) (hb : Below w.heap.size w V) (hA : w.heap.size ≤ A) (a b c x : Value) :
    ∃ W', W' = ((((V.setCell ⟨A, 0, none⟩ a).setCell ⟨A, 1, none⟩ b).setCell ⟨A, 2, none⟩ c).setCell ⟨A, 3, none⟩ x) ∧ Held W' A t #[a, b, c, x] ∧ Below w.heap.size w W' :=
  ⟨_, rfl, (((h.set 0 _).set 1 _).set 2 _).set 3 _, (((hb.setCell hA _).setCell hA _).setCell hA _).setCell hA _⟩
theorem txt_eq (a b : List UInt8) : ((⟨a.toArray⟩ : ByteArray).toList == (⟨b.toArray⟩ : ByteArray).toList) = (a == b) := by
  rw [ByteArray.toList_eq, ByteArray.toList_eq]
theorem isWrong_any (H : Rd B g L w R p d l h e q) :
    Calls Tryz.prog 70 #[.pointer (some ⟨g, 0, none⟩)] w fun en w' => en = .returned (.bool (e != 0)) ∧ w' = w := by
  have c5 := H.c5
  have HH := hidden H
  clear H
  go_enter Tryz.func70, Tryz.ntmps70
  go_wp2_with fail
  go_ret
  exact ⟨rfl, rfl⟩
set_option maxRecDepth 100000 in
theorem token_any {t : Tk} (H : Rd B g L w R p d l h e q) (ht : L[p]? = some t) :
    Calls Tryz.prog 42 #[.pointer (some ⟨g, 0, none⟩)] w fun en w' => en = .returned (.agg #[.int .i64 (t.kind : Int), .string ⟨t.text.toArray⟩, .int .i64 (t.n : Int), .int .i64 (t.place : Int)]) ∧ Below w.heap.size w w' := by
  have hp := H.here
  have hm := H.many
  obtain ⟨W, hW⟩ : ∃ W, W = w.alloc (.cells #[.int .i64 0, .string ⟨#[]⟩, .int .i64 0, .int .i64 0] 49) := ⟨_, rfl⟩
  have HB : Hid (Below w.heap.size w W) := by rw [hW]; exact (Below.refl _ _).alloc (Nat.le_refl _) _
  obtain ⟨G, hG⟩ : ∃ G, G = w.heap.size := ⟨_, rfl⟩
  have HG : Hid (Held W G 49 #[.int .i64 0, .string ⟨#[]⟩, .int .i64 0, .int .i64 0]) := by rw [hW, hG]; exact Held.new _ _ _
  have HW := H.below HB.out
  obtain ⟨y0, y1, y2, y3⟩ := HW.toks.at_ ht
  rw [Nat.zero_add] at y0 y1 y2 y3
  have c0 := HW.c0
  have c1 := HW.c1
  have z0 := HG.out.t0
  have z1 := HG.out.t1
  have z2 := HG.out.t2
  have z3 := HG.out.t3
  have f0 := HG.out.frozen 0
  have f1 := HG.out.frozen 1
  have f2 := HG.out.frozen 2
  have f3 := HG.out.frozen 3
  obtain ⟨n, hn⟩ : ∃ n, n = L.length := ⟨_, rfl⟩
  rw [← hn] at hp hm c0
  obtain ⟨S, hS⟩ : ∃ S : ByteArray, S = ⟨t.text.toArray⟩ := ⟨_, rfl⟩
  rw [← hS] at y1 ⊢
  obtain ⟨tb, htb⟩ : ∃ tb, tb = R.tb := ⟨_, rfl⟩
  rw [← htb] at y0 y1 y2 y3 c0
  have hn0 : ((n : Int) == 0) = false := by simp; omega
  have HH := hidden H
  have HHW := hidden HW
  have HGG := hidden hG
  clear H HW ht hn hS htb hG
  go_enter Tryz.func42, Tryz.ntmps42
  rw [veil 1]
  go_wp2_with fail
  rw [← hW, ← HGG.out]
  clear hW
  refine wp_veil ?_
  go_wp2_with fail
  have hwr : IntKind.i64.wrap ((n : Int) - 1) = (n : Int) - 1 := Go.IntWalk.i64_in _ (by omega)
  have hmn : ¬ ((n : Int) - 1 < (p : Int)) := by omega
  go_still_tail 17, (by kernel_rfl)
  change wpList _ _ _ _ _ W.drew
  go_wp2_with fail
  obtain ⟨W', hW', hH, hBel⟩ := four_told HG.out HB.out (by rw [HGG.out]; exact Nat.le_refl _) (.int .i64 (t.kind : Int)) (.string S) (.int .i64 (t.n : Int)) (.int .i64 (t.place : Int))
  rw [← hW']
  have x0 : W'.drew.cell? ⟨G, 0, none⟩ = some (.int .i64 (t.kind : Int)) := hH.t0
  have x1 : W'.drew.cell? ⟨G, 1, none⟩ = some (.string S) := hH.t1
  have x2 : W'.drew.cell? ⟨G, 2, none⟩ = some (.int .i64 (t.n : Int)) := hH.t2
  have x3 : W'.drew.cell? ⟨G, 3, none⟩ = some (.int .i64 (t.place : Int)) := hH.t3
  clear hW' hH
  exact bodyPost_ret (v := .agg #[.int .i64 (t.kind : Int), .string S, .int .i64 (t.n : Int), .int .i64 (t.place : Int)]) (by simp [results, Tryz.results42, go_sem, x0, x1, x2, x3]) rfl ⟨rfl, hBel.drew⟩
theorem Rd.drewN (H : Rd B g L w R p d l h e q) (n : Nat) : Rd B g L (w.drewN n) R p d l h e q := H.below (below_drewN w n _)
theorem isWrong_ok (H : Rd B g L w R p d l h 0 q) :
    Calls Tryz.prog 70 #[.pointer (some ⟨g, 0, none⟩)] w fun en w' => en = .returned (.bool false) ∧ w' = w := isWrong_any H
theorem isWrong_bad (H : Rd B g L w R p d l h e q) (he : e ≠ 0) :
    Calls Tryz.prog 70 #[.pointer (some ⟨g, 0, none⟩)] w fun en w' => en = .returned (.bool true) ∧ w' = w := by
  have := isWrong_any H
  have h1 : (e != 0) = true := by simpa using he
  rw [h1] at this
  exact this
theorem canTake_ok (H : Rd B g L w R p d l h 0 q) :
    Calls Tryz.prog 69 #[.pointer (some ⟨g, 0, none⟩)] w fun en w' => en = .returned (.bool true) ∧ Below w.heap.size w w' := by
  have hp := H.here
  have c0 := H.c0
  have c1 := H.c1
  obtain ⟨n, hn⟩ : ∃ n, n = L.length := ⟨_, rfl⟩
  rw [← hn] at hp c0
  have hpn : ((p : Int) < (n : Int)) := by omega
  have HH := hidden H
  clear H hn
  go_enter Tryz.func69, Tryz.ntmps69
  go_wp2_with fail
  go_quiet (first | (go_at_call 70; refine Calls.quiet_of_same (isWrong_ok (HH.out.drewN _))))
  go_wp2_with fail
  go_ret
  exact ⟨by first | rfl | simp [hp], below_drewN _ _ _⟩
theorem canTake_bad (H : Rd B g L w R p d l h e q) (he : e ≠ 0) :
    Calls Tryz.prog 69 #[.pointer (some ⟨g, 0, none⟩)] w fun en w' => en = .returned (.bool false) ∧ Below w.heap.size w w' := by
  have HH := hidden H
  have HE := hidden he
  clear H he
  go_enter Tryz.func69, Tryz.ntmps69
  go_wp2_with fail
  go_quiet (first | (go_at_call 70; refine Calls.quiet_of_same (isWrong_bad (HH.out.drewN _) HE.out)))
  go_wp2_with fail
  go_ret
  exact ⟨rfl, below_drewN _ _ _⟩
theorem below_then {w w1 w2 : World} (h : Below w.heap.size w w1) (k : Below w1.heap.size w1 w2) : Below w.heap.size w w2 := h.trans (k.mono h.size)
set_option maxRecDepth 100000 in
theorem is_ok {t : Tk} (b : List UInt8) (H : Rd B g L w R p d l h 0 q) (ht : L[p]? = some t) :
    Calls Tryz.prog 40 #[.pointer (some ⟨g, 0, none⟩), .string ⟨b.toArray⟩] w fun en w' => en = .returned (.bool (sees t b)) ∧ Below w.heap.size w w' := by
  have HH := hidden H
  have HT := hidden ht
  clear H ht
  obtain ⟨S, hS⟩ : ∃ S : ByteArray, S = ⟨t.text.toArray⟩ := ⟨_, rfl⟩
  obtain ⟨X, hX⟩ : ∃ X : ByteArray, X = ⟨b.toArray⟩ := ⟨_, rfl⟩
  have hs2 : (S.toList == X.toList) = (t.text == b) := by rw [hS, hX]; exact txt_eq _ _
  have hk3 : ((t.kind : Int) == 3) = (t.kind == 3) := by rw [Bool.eq_iff_iff]; simp; omega
  have hk4 : ((t.kind : Int) == 4) = (t.kind == 4) := by rw [Bool.eq_iff_iff]; simp; omega
  have HTK := token_any HH.out HT.out
  rw [← hS] at HTK
  rw [← hX]
  have HTK' := hidden HTK
  clear HTK hS hX
  obtain ⟨K, hK⟩ : ∃ K : Int, K = t.kind := ⟨_, rfl⟩
  obtain ⟨N, hN⟩ : ∃ N : Int, N = t.n := ⟨_, rfl⟩
  obtain ⟨P, hP⟩ : ∃ P : Int, P = t.place := ⟨_, rfl⟩
  rw [← hK, ← hN, ← hP] at HTK'
  rw [← hK] at hk3 hk4
  have HSE : Hid (sees t b = ((t.kind == 3 || t.kind == 4) && t.text == b)) := rfl
  obtain ⟨V, hV⟩ : ∃ V, V = sees t b := ⟨_, rfl⟩
  rw [← hV] at HSE ⊢
  clear hK hN hP hV
  obtain ⟨b3, hb3⟩ : ∃ b3, b3 = (t.kind == 3) := ⟨_, rfl⟩
  obtain ⟨b4, hb4⟩ : ∃ b4, b4 = (t.kind == 4) := ⟨_, rfl⟩
  obtain ⟨bs, hbs⟩ : ∃ bs, bs = (t.text == b) := ⟨_, rfl⟩
  rw [← hb3, ← hb4, ← hbs] at HSE
  rw [← hb3] at hk3
  rw [← hb4] at hk4
  rw [← hbs] at hs2
  clear hb3 hb4 hbs
  go_enter Tryz.func40, Tryz.ntmps40
  rw [veil 2]
  go_wp2_with fail
  refine HTK'.out.mono ?_
  rintro en w1 ⟨rfl, hb1⟩
  have HB1 := hidden hb1
  clear hb1
  go_wp2_with fail
  obtain ⟨W, hW⟩ : ∃ W, W = w1.alloc (.cells #[.int .i64 K, .string S, .int .i64 N, .int .i64 P] 49) := ⟨_, rfl⟩
  obtain ⟨G, hG⟩ : ∃ G, G = w1.heap.size := ⟨_, rfl⟩
  have HG : Hid (Held W G 49 #[.int .i64 K, .string S, .int .i64 N, .int .i64 P]) := by rw [hW, hG]; exact Held.new _ _ _
  have HB2 : Hid (Below w.heap.size w W) := by rw [hW]; exact HB1.out.alloc HB1.out.size _
  rw [← hW, ← hG]
  clear hW hG
  refine wp_veil ?_
  go_wp2_with fail
  refine (canTake_ok (HH.out.below HB2.out)).mono ?_
  rintro en w2 ⟨rfl, hb2⟩
  have HG2 := HG.out.since hb2
  have z0 := HG2.t0
  have z1 := HG2.t1
  have HB3 := hidden (below_then HB2.out hb2)
  clear hb2 HG2
  cases b3 <;> cases b4 <;> cases bs <;> (go_wp2_with fail; go_ret; exact ⟨by rw [HSE.out]; rfl, HB3.out⟩)
set_option maxRecDepth 100000 in
theorem is_bad (b : List UInt8) (H : Rd B g L w R p d l h e q) (he : e ≠ 0) :
    Calls Tryz.prog 40 #[.pointer (some ⟨g, 0, none⟩), .string ⟨b.toArray⟩] w fun en w' => en = .returned (.bool false) ∧ Below w.heap.size w w' := by
  obtain ⟨t, ht, _⟩ := getD_some H.here
  have HE := hidden he
  have HH := hidden H
  obtain ⟨X, hX⟩ : ∃ X : ByteArray, X = ⟨b.toArray⟩ := ⟨_, rfl⟩
  rw [← hX]
  have HT := hidden ht
  clear H he hX ht
  go_enter Tryz.func40, Tryz.ntmps40
  rw [veil 2]
  go_wp2_with fail
  refine (token_any HH.out HT.out).mono ?_
  rintro en w1 ⟨rfl, hb1⟩
  have HB1 := hidden hb1
  clear hb1
  go_wp2_with fail
  obtain ⟨W, hW⟩ : ∃ W, W = w1.alloc (.cells #[.int .i64 (t.kind : Int), .string ⟨t.text.toArray⟩, .int .i64 (t.n : Int), .int .i64 (t.place : Int)] 49) := ⟨_, rfl⟩
  have HB2 : Hid (Below w.heap.size w W) := by rw [hW]; exact HB1.out.alloc HB1.out.size _
  rw [← hW]
  clear hW
  refine wp_veil ?_
  go_wp2_with fail
  refine (canTake_bad (HH.out.below HB2.out) HE.out).mono ?_
  rintro en w2 ⟨rfl, hb2⟩
  have HB3 := hidden (below_then HB2.out hb2)
  clear hb2
  go_wp2_with fail
  go_ret
  exact ⟨rfl, HB3.out⟩
end Go.Proofs.YtagacfcpepoaoaaGreatDoor

namespace Go.Proofs.YtagacfcpepoaoaaGreatDoor
open Go.RowKit
set_option linter.unusedVariables false

variable {B g : Nat} {L : List Tk} {w : World} {R : Bx} {p : Nat} {d e q : Int} {l : List Nd} {h : List Nat}
/-- a reader, after a call -/
def Turned (B g : Nat) (L : List Tk) (w : World) (R : Bx) (p : Nat) (d : Int) (l : List Nd) (h : List Nat) (e q : Int) (w' : World) : Prop := Rd B g L w' R p d l h e q ∧ Fr g w w' R R
theorem Turned.of_below {w' : World} (H : Rd B g L w R p d l h e q) (hb : Below w.heap.size w w') : Turned B g L w R p d l h e q w' := ⟨H.below hb, Fr.of_below R hb⟩
theorem Turned.then {w1 w2 : World} {p1 p2 : Nat} {d1 e1 q1 d2 e2 q2 : Int} {l1 l2 : List Nd} {h1 h2 : List Nat} (a : Turned B g L w R p1 d1 l1 h1 e1 q1 w1) (b : Turned B g L w1 R p2 d2 l2 h2 e2 q2 w2) : Turned B g L w R p2 d2 l2 h2 e2 q2 w2 := ⟨b.1, a.2.trans b.2⟩
theorem Turned.quiet {w1 w2 : World} {p1 : Nat} {d1 e1 q1 : Int} {l1 : List Nd} {h1 : List Nat} (a : Turned B g L w R p1 d1 l1 h1 e1 q1 w1) (b : Below w1.heap.size w1 w2) : Turned B g L w R p1 d1 l1 h1 e1 q1 w2 := a.then (Turned.of_below a.1 b)
theorem sees_kind {t : Tk} {b : List UInt8} (h : sees t b = true) : t.kind ≠ 0 := by
  unfold sees at h
  simp at h
  omega
/-- a token is taken -/
theorem Rd.take {t : Tk} (H : Rd B g L w R p d l h e q) (ht : L[p]? = some t) (hk : t.kind ≠ 0) (u : Value) (hu : u = .int .i64 ((p : Int) + 1)) : Turned B g L w R (p + 1) d l h e q (w.setCell ⟨g, 1, none⟩ u) := by
  subst hu
  have := H.few
  exact ⟨H.store rfl (H.fin p t ht hk) (by omega), Fr.store (B := B) (L := L) 1 _⟩
theorem skip_yes {t : Tk} (b : List UInt8) (H : Rd B g L w R p d l h 0 q) (ht : L[p]? = some t) (hs : sees t b = true) :
    Calls Tryz.prog 67 #[.pointer (some ⟨g, 0, none⟩), .string ⟨b.toArray⟩] w fun en w' => en = .returned (.bool true) ∧ Turned B g L w R (p + 1) d l h 0 q w' := by
  have hI := is_ok b H ht
  rw [hs] at hI
  obtain ⟨X, hX⟩ : ∃ X : ByteArray, X = ⟨b.toArray⟩ := ⟨_, rfl⟩
  rw [← hX] at hI ⊢
  have HI := hidden hI
  have HH := hidden H
  have HT := hidden ht
  have HS := hidden hs
  have hm : p < 100000 := by have := H.here; have := H.many; omega
  clear hI H ht hs hX
  go_enter Tryz.func67, Tryz.ntmps67
  go_wp2_with fail
  refine HI.out.mono ?_
  rintro en w1 ⟨rfl, hb1⟩
  have HH1 := hidden (HH.out.below hb1)
  have c1 := HH1.out.c1
  have f1 := HH1.out.box.frozen 1
  have HB1 := hidden hb1
  clear hb1
  go_wp2_with fail
  go_ret
  exact ⟨rfl, (Turned.of_below HH.out HB1.out).then (HH1.out.take HT.out (sees_kind HS.out) _ (by go_num))⟩
theorem skip_no {t : Tk} (b : List UInt8) (H : Rd B g L w R p d l h 0 q) (ht : L[p]? = some t) (hs : sees t b = false) :
    Calls Tryz.prog 67 #[.pointer (some ⟨g, 0, none⟩), .string ⟨b.toArray⟩] w fun en w' => en = .returned (.bool false) ∧ Below w.heap.size w w' := by
  have hI := is_ok b H ht
  rw [hs] at hI
  obtain ⟨X, hX⟩ : ∃ X : ByteArray, X = ⟨b.toArray⟩ := ⟨_, rfl⟩
  rw [← hX] at hI ⊢
  have HI := hidden hI
  clear hI H ht hs hX
  go_enter Tryz.func67, Tryz.ntmps67
  go_wp2_with fail
  refine HI.out.mono ?_
  rintro en w1 ⟨rfl, hb1⟩
  have HB1 := hidden hb1
  clear hb1
  go_wp2_with fail
  go_ret
  exact ⟨rfl, HB1.out⟩
theorem skip_bad (b : List UInt8) (H : Rd B g L w R p d l h e q) (he : e ≠ 0) :
    Calls Tryz.prog 67 #[.pointer (some ⟨g, 0, none⟩), .string ⟨b.toArray⟩] w fun en w' => en = .returned (.bool false) ∧ Below w.heap.size w w' := by
  have hI := is_bad b H he
  obtain ⟨X, hX⟩ : ∃ X : ByteArray, X = ⟨b.toArray⟩ := ⟨_, rfl⟩
  rw [← hX] at hI ⊢
  have HI := hidden hI
  clear hI H he hX
  go_enter Tryz.func67, Tryz.ntmps67
  go_wp2_with fail
  refine HI.out.mono ?_
  rintro en w1 ⟨rfl, hb1⟩
  have HB1 := hidden hb1
  clear hb1
  go_wp2_with fail
  go_ret
  exact ⟨rfl, HB1.out⟩
theorem fail_ok (x y : Int) (hx : x ≠ 0) (H : Rd B g L w R p d l h 0 q) :
    Calls Tryz.prog 41 #[.pointer (some ⟨g, 0, none⟩), .int .i64 x, .int .i64 y] w fun en w' => (∃ v, en = .returned v) ∧ Turned B g L w R p d l h x y w' := by
  have hx' : (x != 0) = true := by simpa using hx
  have c5 := H.c5
  have c6 := H.c6
  have f5 := H.box.frozen 5
  have f6 := H.box.frozen 6
  have HH := hidden H
  clear H hx
  go_enter Tryz.func41, Tryz.ntmps41
  go_wp2_with fail
  refine (isWrong_ok HH.out).mono ?_
  rintro en w1 ⟨rfl, hw1⟩
  rw [hw1]; clear hw1 w1
  go_wp2_with fail
  go_end0
  refine ⟨⟨_, rfl⟩, ?_, ?_⟩
  · have h1 := HH.out.store (i := 5) (u := .int .i64 x) (e' := x) (q' := q) (d' := d) (p' := p) rfl HH.out.here HH.out.few
    exact h1.store (i := 6) (u := .int .i64 y) (e' := x) (q' := y) (d' := d) (p' := p) rfl HH.out.here HH.out.few
  · exact (Fr.store (B := B) (L := L) 5 _).trans (Fr.store (B := B) (L := L) 6 _)
theorem fail_bad (x y : Int) (H : Rd B g L w R p d l h e q) (he : e ≠ 0) (hx : x ≠ 0) :
    Calls Tryz.prog 41 #[.pointer (some ⟨g, 0, none⟩), .int .i64 x, .int .i64 y] w fun en w' => (∃ v, en = .returned v) ∧ w' = w := by
  have hx' : (x != 0) = true := by simpa using hx
  have HH := hidden H
  have HE := hidden he
  clear H hx he
  go_enter Tryz.func41, Tryz.ntmps41
  go_wp2_with fail
  refine (isWrong_bad HH.out HE.out).mono ?_
  rintro en w1 ⟨rfl, hw1⟩
  rw [hw1]; clear hw1 w1
  go_wp2_with fail
  go_end0
  exact ⟨⟨_, rfl⟩, rfl⟩
theorem close_any (H : Rd B g L w R p d l h e q) (hd : -1000000 ≤ d ∧ d ≤ 1000000) :
    Calls Tryz.prog 93 #[.pointer (some ⟨g, 0, none⟩)] w fun en w' => (∃ v, en = .returned v) ∧ Turned B g L w R p (d - 1) l h e q w' := by
  have c2 := H.c2
  have f2 := H.box.frozen 2
  obtain ⟨hd1, hd2⟩ := hd
  have HH := hidden H
  clear H
  go_enter Tryz.func93, Tryz.ntmps93
  go_wp2_with fail
  go_end0
  refine ⟨⟨_, rfl⟩, ?_, Fr.store (B := B) (L := L) 2 _⟩
  exact HH.out.store (i := 2) (e' := e) (q' := q) (d' := d - 1) (p' := p) (by first | rfl | (congr 2)) HH.out.here HH.out.few
end Go.Proofs.YtagacfcpepoaoaaGreatDoor

namespace Go.Proofs.YtagacfcpepoaoaaGreatDoor
open Go.RowKit
set_option linter.unusedVariables false

variable {B g : Nat} {L : List Tk} {w : World} {R : Bx} {p : Nat} {d e q : Int} {l : List Nd} {h : List Nat}
theorem field_at (a b c x : Value) (w : World) : (Instr.field 49 (.agg #[a, b, c, x]) 3).run Tryz.prog w = .ok x w := by kernel_rfl
theorem want_yes {t : Tk} (b : List UInt8) (H : Rd B g L w R p d l h 0 q) (ht : L[p]? = some t) (hs : sees t b = true) :
    Calls Tryz.prog 68 #[.pointer (some ⟨g, 0, none⟩), .string ⟨b.toArray⟩] w fun en w' => en = .returned (.bool true) ∧ Turned B g L w R (p + 1) d l h 0 q w' := by
  have hI := skip_yes b H ht hs
  obtain ⟨X, hX⟩ : ∃ X : ByteArray, X = ⟨b.toArray⟩ := ⟨_, rfl⟩
  rw [← hX] at hI ⊢
  have HI := hidden hI
  clear hI H ht hs hX
  go_enter Tryz.func68, Tryz.ntmps68
  go_wp2_with fail
  refine HI.out.mono ?_
  rintro en w1 ⟨rfl, hb1⟩
  have HB1 := hidden hb1
  clear hb1
  go_wp2_with fail
  go_ret
  exact ⟨rfl, HB1.out⟩
theorem want_no {t : Tk} (b : List UInt8) (H : Rd B g L w R p d l h 0 q) (ht : L[p]? = some t) (hs : sees t b = false) :
    Calls Tryz.prog 68 #[.pointer (some ⟨g, 0, none⟩), .string ⟨b.toArray⟩] w fun en w' => en = .returned (.bool false) ∧ Turned B g L w R p d l h 8 (t.place : Int) w' := by
  have hI := skip_no b H ht hs
  obtain ⟨X, hX⟩ : ∃ X : ByteArray, X = ⟨b.toArray⟩ := ⟨_, rfl⟩
  rw [← hX] at hI ⊢
  have HI := hidden hI
  have HH := hidden H
  have HT := hidden ht
  have hfd := field_at
  clear hI H ht hs hX
  go_enter Tryz.func68, Tryz.ntmps68
  go_wp2_with fail
  refine HI.out.mono ?_
  rintro en w1 ⟨rfl, hb1⟩
  have HB1 := hidden hb1
  clear hb1
  go_wp2_with fail
  refine (token_any (HH.out.below HB1.out) HT.out).mono ?_
  rintro en w2 ⟨rfl, hb2⟩
  have HB2 := hidden (below_then HB1.out hb2)
  clear hb2
  go_wp2_with fail
  refine (fail_ok 8 (t.place : Int) (by decide) (HH.out.below HB2.out)).mono ?_
  rintro en w3 ⟨⟨v, rfl⟩, hb3⟩
  have HB3 := hidden ((Turned.of_below HH.out HB2.out).then hb3)
  clear hb3
  go_wp2_with fail
  go_ret
  exact ⟨rfl, HB3.out⟩
theorem want_bad (b : List UInt8) (H : Rd B g L w R p d l h e q) (he : e ≠ 0) :
    Calls Tryz.prog 68 #[.pointer (some ⟨g, 0, none⟩), .string ⟨b.toArray⟩] w fun en w' => en = .returned (.bool false) ∧ Below w.heap.size w w' := by
  have hI := skip_bad b H he
  obtain ⟨t, ht, _⟩ := getD_some H.here
  obtain ⟨X, hX⟩ : ∃ X : ByteArray, X = ⟨b.toArray⟩ := ⟨_, rfl⟩
  rw [← hX] at hI ⊢
  have HI := hidden hI
  have HH := hidden H
  have HT := hidden ht
  have HE := hidden he
  have hfd := field_at
  clear hI H ht he hX
  go_enter Tryz.func68, Tryz.ntmps68
  go_wp2_with fail
  refine HI.out.mono ?_
  rintro en w1 ⟨rfl, hb1⟩
  have HB1 := hidden hb1
  clear hb1
  go_wp2_with fail
  refine (token_any (HH.out.below HB1.out) HT.out).mono ?_
  rintro en w2 ⟨rfl, hb2⟩
  have HB2 := hidden (below_then HB1.out hb2)
  clear hb2
  go_wp2_with fail
  refine (fail_bad 8 (t.place : Int) (HH.out.below HB2.out) HE.out (by decide)).mono ?_
  rintro en w3 ⟨⟨v, rfl⟩, hw3⟩
  rw [hw3]; clear hw3 w3
  go_wp2_with fail
  go_ret
  exact ⟨rfl, HB2.out⟩
theorem name_yes {t : Tk} (H : Rd B g L w R p d l h 0 q) (ht : L[p]? = some t) (hs : t.kind = 1) :
    Calls Tryz.prog 89 #[.pointer (some ⟨g, 0, none⟩)] w fun en w' => en = .returned (.string ⟨t.text.toArray⟩) ∧ Turned B g L w R (p + 1) d l h 0 q w' := by
  have HH := hidden H
  have HT := hidden ht
  have hI := token_any H ht
  rw [hs] at hI
  have HS := hidden hs
  obtain ⟨X, hX⟩ : ∃ X : ByteArray, X = ⟨t.text.toArray⟩ := ⟨_, rfl⟩
  rw [← hX] at hI ⊢
  obtain ⟨N, hN⟩ : ∃ N : Int, N = t.n := ⟨_, rfl⟩
  obtain ⟨P, hP⟩ : ∃ P : Int, P = t.place := ⟨_, rfl⟩
  rw [← hN, ← hP] at hI
  have HI := hidden hI
  have hm : p < 100000 := by have := H.here; have := H.many; omega
  clear H ht hs hI hN hP hX
  go_enter Tryz.func89, Tryz.ntmps89
  rw [veil 2, veil 5, veil 6]
  go_wp2_with fail
  refine HI.out.mono ?_
  rintro en w1 ⟨rfl, hb1⟩
  have HB1 := hidden hb1
  clear hb1
  go_wp2_with fail
  obtain ⟨W, hW⟩ : ∃ W, W = w1.alloc (.cells #[.int .i64 ((1 : Nat) : Int), .string X, .int .i64 N, .int .i64 P] 49) := ⟨_, rfl⟩
  obtain ⟨G, hG⟩ : ∃ G, G = w1.heap.size := ⟨_, rfl⟩
  have HG : Hid (Held W G 49 #[.int .i64 ((1 : Nat) : Int), .string X, .int .i64 N, .int .i64 P]) := by rw [hW, hG]; exact Held.new _ _ _
  have HB2 : Hid (Below w.heap.size w W) := by rw [hW]; exact HB1.out.alloc HB1.out.size _
  have HGL : Hid (w.heap.size ≤ G) := by rw [hG]; exact HB1.out.size
  simp only [Int.natCast_one] at hW
  rw [← hW, ← hG]
  clear hW hG
  have z0 := HG.out.t0
  refine wp_veil ?_
  go_wp2_with fail
  refine (canTake_ok (HH.out.below HB2.out)).mono ?_
  rintro en w2 ⟨rfl, hb2⟩
  have HG2 := hidden (HG.out.since hb2)
  have HB3 := hidden (below_then HB2.out hb2)
  have HH3 := hidden (HH.out.below HB3.out)
  clear hb2 z0
  go_wp2_with fail
  refine wp_veil ?_
  have c1 := HH3.out.c1
  have f1 := HH3.out.box.frozen 1
  have HGne : Hid (G ≠ g) := by have := HH.out.box.lt; have := HGL.out; show G ≠ g; omega
  go_wp2_with fail
  refine wp_veil ?_
  have HT4 := HH3.out.take HT.out (by rw [HS.out]; decide) _ rfl
  have z1 := (HG2.out.off (g' := g) HGne.out 1 (.int .i64 ((p : Int) + 1))).t1
  obtain ⟨W4, hW4⟩ : ∃ W4, W4 = w2.setCell ⟨g, 1, none⟩ (.int .i64 ((p : Int) + 1)) := ⟨_, rfl⟩
  rw [← hW4] at HT4 z1 ⊢
  have HT5 := hidden ((Turned.of_below HH.out HB3.out).then HT4)
  clear HT4 hW4
  go_wp2_with fail
  go_ret
  exact ⟨rfl, HT5.out⟩
theorem name_no {t : Tk} (H : Rd B g L w R p d l h 0 q) (ht : L[p]? = some t) (hs : t.kind ≠ 1) :
    Calls Tryz.prog 89 #[.pointer (some ⟨g, 0, none⟩)] w fun en w' => en = .returned (.string ⟨#[]⟩) ∧ Turned B g L w R p d l h 8 (t.place : Int) w' := by
  have HH := hidden H
  have hI := token_any H ht
  have hk : ((t.kind : Int) != 1) = true := by simp; omega
  obtain ⟨X, hX⟩ : ∃ X : ByteArray, X = ⟨t.text.toArray⟩ := ⟨_, rfl⟩
  obtain ⟨N, hN⟩ : ∃ N : Int, N = t.n := ⟨_, rfl⟩
  obtain ⟨P, hP⟩ : ∃ P : Int, P = t.place := ⟨_, rfl⟩
  obtain ⟨K, hK⟩ : ∃ K : Int, K = t.kind := ⟨_, rfl⟩
  rw [← hN, ← hP, ← hX, ← hK] at hI
  rw [← hK] at hk
  rw [← hP]
  have HI := hidden hI
  clear H ht hs hI hN hP hX hK
  go_enter Tryz.func89, Tryz.ntmps89
  rw [veil 2]
  go_wp2_with fail
  refine HI.out.mono ?_
  rintro en w1 ⟨rfl, hb1⟩
  have HB1 := hidden hb1
  clear hb1
  go_wp2_with fail
  obtain ⟨W, hW⟩ : ∃ W, W = w1.alloc (.cells #[.int .i64 K, .string X, .int .i64 N, .int .i64 P] 49) := ⟨_, rfl⟩
  obtain ⟨G, hG⟩ : ∃ G, G = w1.heap.size := ⟨_, rfl⟩
  have HG : Hid (Held W G 49 #[.int .i64 K, .string X, .int .i64 N, .int .i64 P]) := by rw [hW, hG]; exact Held.new _ _ _
  have HB2 : Hid (Below w.heap.size w W) := by rw [hW]; exact HB1.out.alloc HB1.out.size _
  rw [← hW, ← hG]
  clear hW hG
  have z0 := HG.out.t0
  have z3 := HG.out.t3
  refine wp_veil ?_
  go_wp2_with fail
  refine (fail_ok 8 P (by decide) (HH.out.below HB2.out)).mono ?_
  rintro en w3 ⟨⟨v, rfl⟩, hb3⟩
  have HB3 := hidden ((Turned.of_below HH.out HB2.out).then hb3)
  clear hb3
  go_wp2_with fail
  go_ret
  exact ⟨rfl, HB3.out⟩
theorem name_bad (H : Rd B g L w R p d l h e q) (he : e ≠ 0) :
    Calls Tryz.prog 89 #[.pointer (some ⟨g, 0, none⟩)] w fun en w' => en = .returned (.string ⟨#[]⟩) ∧ Below w.heap.size w w' := by
  have HH := hidden H
  have HE := hidden he
  obtain ⟨t, ht, _⟩ := getD_some H.here
  have hI := token_any H ht
  obtain ⟨X, hX⟩ : ∃ X : ByteArray, X = ⟨t.text.toArray⟩ := ⟨_, rfl⟩
  obtain ⟨N, hN⟩ : ∃ N : Int, N = t.n := ⟨_, rfl⟩
  obtain ⟨P, hP⟩ : ∃ P : Int, P = t.place := ⟨_, rfl⟩
  obtain ⟨K, hK⟩ : ∃ K : Int, K = t.kind := ⟨_, rfl⟩
  rw [← hN, ← hP, ← hX, ← hK] at hI
  have HI := hidden hI
  clear H ht he hI hN hP hX hK
  go_enter Tryz.func89, Tryz.ntmps89
  rw [veil 2]
  go_wp2_with fail
  refine HI.out.mono ?_
  rintro en w1 ⟨rfl, hb1⟩
  have HB1 := hidden hb1
  clear hb1
  go_wp2_with fail
  obtain ⟨W, hW⟩ : ∃ W, W = w1.alloc (.cells #[.int .i64 K, .string X, .int .i64 N, .int .i64 P] 49) := ⟨_, rfl⟩
  obtain ⟨G, hG⟩ : ∃ G, G = w1.heap.size := ⟨_, rfl⟩
  have HG : Hid (Held W G 49 #[.int .i64 K, .string X, .int .i64 N, .int .i64 P]) := by rw [hW, hG]; exact Held.new _ _ _
  have HB2 : Hid (Below w.heap.size w W) := by rw [hW]; exact HB1.out.alloc HB1.out.size _
  rw [← hW, ← hG]
  clear hW hG
  have z0 := HG.out.t0
  have z3 := HG.out.t3
  refine wp_veil ?_
  by_cases hk1 : K = 1
  · have hk : (K != 1) = false := by simpa using hk1
    clear hk1
    go_wp2_with fail
    refine (canTake_bad (HH.out.below HB2.out) HE.out).mono ?_
    rintro en w2 ⟨rfl, hb2⟩
    have HG2 := hidden (HG.out.since hb2)
    have HB3 := hidden (below_then HB2.out hb2)
    clear hb2 z0 z3
    have z3 := HG2.out.t3
    go_wp2_with fail
    refine (fail_bad 8 P (HH.out.below HB3.out) HE.out (by decide)).mono ?_
    rintro en w3 ⟨⟨v, rfl⟩, hw3⟩
    rw [hw3]; clear hw3 w3
    go_wp2_with fail
    go_ret
    exact ⟨rfl, HB3.out⟩
  · have hk : (K != 1) = true := by simpa using hk1
    clear hk1
    go_wp2_with fail
    refine (fail_bad 8 P (HH.out.below HB2.out) HE.out (by decide)).mono ?_
    rintro en w3 ⟨⟨v, rfl⟩, hw3⟩
    rw [hw3]; clear hw3 w3
    go_wp2_with fail
    go_ret
    exact ⟨rfl, HB2.out⟩
/-- a level is opened -/
theorem Rd.depth (H : Rd B g L w R p d l h e q) (d' : Int) (u : Value) (hu : u = .int .i64 d') : Turned B g L w R p d' l h e q (w.setCell ⟨g, 2, none⟩ u) := by
  subst hu
  exact ⟨H.store rfl H.here H.few, Fr.store (B := B) (L := L) 2 _⟩
theorem open_ok (at_ : Int) (H : Rd B g L w R p d l h 0 q) (hd : -1000000 ≤ d ∧ d < 200) :
    Calls Tryz.prog 91 #[.pointer (some ⟨g, 0, none⟩), .int .i64 at_] w fun en w' => en = .returned (.bool true) ∧ Turned B g L w R p (d + 1) l h 0 q w' := by
  have c2 := H.c2
  have f2 := H.box.frozen 2
  obtain ⟨hd1, hd2⟩ := hd
  have HH := hidden H
  clear H
  have hd3 : ¬ (200 < d + 1) := by omega
  go_enter Tryz.func91, Tryz.ntmps91
  rw [veil 4]
  go_wp2_with fail
  have HT := HH.out.depth (d + 1) _ rfl
  obtain ⟨W, hW⟩ : ∃ W, W = w.setCell ⟨g, 2, none⟩ (.int .i64 (d + 1)) := ⟨_, rfl⟩
  rw [← hW] at HT ⊢
  have c2' := HT.1.c2
  have HTT := hidden HT
  clear HT hW c2 f2
  refine wp_veil ?_
  go_wp2_with fail
  refine (isWrong_ok HTT.out.1).mono ?_
  rintro en w1 ⟨rfl, hw1⟩
  rw [hw1]; clear hw1 w1
  go_wp2_with fail
  go_ret
  exact ⟨rfl, HTT.out⟩
theorem open_deep (at_ : Int) (H : Rd B g L w R p d l h 0 q) (hd : 200 ≤ d ∧ d ≤ 1000000) :
    Calls Tryz.prog 91 #[.pointer (some ⟨g, 0, none⟩), .int .i64 at_] w fun en w' => en = .returned (.bool false) ∧ Turned B g L w R p (d + 1) l h 4 at_ w' := by
  have c2 := H.c2
  have f2 := H.box.frozen 2
  obtain ⟨hd1, hd2⟩ := hd
  have HH := hidden H
  clear H
  have hd3 : 200 < d + 1 := by omega
  go_enter Tryz.func91, Tryz.ntmps91
  rw [veil 4]
  go_wp2_with fail
  have HT := HH.out.depth (d + 1) _ rfl
  obtain ⟨W, hW⟩ : ∃ W, W = w.setCell ⟨g, 2, none⟩ (.int .i64 (d + 1)) := ⟨_, rfl⟩
  rw [← hW] at HT ⊢
  have c2' := HT.1.c2
  have HTT := hidden HT
  clear HT hW c2 f2
  refine wp_veil ?_
  go_wp2_with fail
  refine (fail_ok 4 at_ (by decide) HTT.out.1).mono ?_
  rintro en w1 ⟨⟨v, rfl⟩, hb1⟩
  have HB1 := hidden (HTT.out.then hb1)
  clear hb1
  go_wp2_with fail
  refine (isWrong_bad HB1.out.1 (by decide)).mono ?_
  rintro en w2 ⟨rfl, hw2⟩
  rw [hw2]; clear hw2 w2
  go_wp2_with fail
  go_ret
  exact ⟨rfl, HB1.out⟩
theorem open_bad (at_ : Int) (H : Rd B g L w R p d l h e q) (hd : -1000000 ≤ d ∧ d ≤ 1000000) (he : e ≠ 0) :
    Calls Tryz.prog 91 #[.pointer (some ⟨g, 0, none⟩), .int .i64 at_] w fun en w' => en = .returned (.bool false) ∧ Turned B g L w R p (d + 1) l h e q w' := by
  have c2 := H.c2
  have f2 := H.box.frozen 2
  obtain ⟨hd1, hd2⟩ := hd
  have HH := hidden H
  have HE := hidden he
  clear H he
  go_enter Tryz.func91, Tryz.ntmps91
  rw [veil 4]
  go_wp2_with fail
  have HT := HH.out.depth (d + 1) _ rfl
  obtain ⟨W, hW⟩ : ∃ W, W = w.setCell ⟨g, 2, none⟩ (.int .i64 (d + 1)) := ⟨_, rfl⟩
  rw [← hW] at HT ⊢
  have c2' := HT.1.c2
  have HTT := hidden HT
  clear HT hW c2 f2
  refine wp_veil ?_
  by_cases hd3 : 200 < d + 1
  · go_wp2_with fail
    refine (fail_bad 4 at_ HTT.out.1 HE.out (by decide)).mono ?_
    rintro en w1 ⟨⟨v, rfl⟩, hw1⟩
    rw [hw1]; clear hw1 w1
    go_wp2_with fail
    refine (isWrong_bad HTT.out.1 HE.out).mono ?_
    rintro en w2 ⟨rfl, hw2⟩
    rw [hw2]; clear hw2 w2
    go_wp2_with fail
    go_ret
    exact ⟨rfl, HTT.out⟩
  · go_wp2_with fail
    refine (isWrong_bad HTT.out.1 HE.out).mono ?_
    rintro en w2 ⟨rfl, hw2⟩
    rw [hw2]; clear hw2 w2
    go_wp2_with fail
    go_ret
    exact ⟨rfl, HTT.out⟩
end Go.Proofs.YtagacfcpepoaoaaGreatDoor
