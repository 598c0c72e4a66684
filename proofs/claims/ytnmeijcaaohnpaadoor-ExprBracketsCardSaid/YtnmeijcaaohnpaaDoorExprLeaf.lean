/- The walks through the reader's small functions: Token, isWrong, canTake, Is, Skip, Fail, Want, Name, Open, Close. -/
import Derived.Test.YtnmeijcaaohnpaaDoorExprMem
import Derived.Test.YtnmeijcaaohnpaaDoorGenVeil
import Derived.StillTailTactics
import Derived.Deep.QuietTactic
import Derived.BigQuiet
import Derived.IntWalk
namespace Go.Proofs.YtnmeijcaaohnpaaDoor
open Go.RowKit
set_option linter.unusedVariables false

variable {B g : Nat} {L : List Tk} {w : World} {R : Bx} {p : Nat} {d e q : Int} {l : List Nd} {h : List Nat}
theorem four_told {w V : World} {A : Nat} {t : TypeId} {a0 b0 c0 x0 : Value} (h : Held V A t #[a0, b0, c0, x0]) (hb : Below w.heap.size w V) (hA : w.heap.size ≤ A) (a b c x : Value) :
    ∃ W', W' = ((((V.setCell ⟨A, 0, none⟩ a).setCell ⟨A, 1, none⟩ b).setCell ⟨A, 2, none⟩ c).setCell ⟨A, 3, none⟩ x) ∧ Held W' A t #[a, b, c, x] ∧ Below w.heap.size w W' :=
  ⟨_, rfl, (((h.set 0 _).set 1 _).set 2 _).set 3 _, (((hb.setCell hA _).setCell hA _).setCell hA _).setCell hA _⟩
theorem txt_eq (a b : List UInt8) : ((⟨a.toArray⟩ : ByteArray).toList == (⟨b.toArray⟩ : ByteArray).toList) = (a == b) := by
  rw [ByteArray.toList_eq, ByteArray.toList_eq]
theorem isWrong_any (H : Rd B g L w R p d l h e q) :
    Calls Tryd.prog 20 #[.pointer (some ⟨g, 0, none⟩)] w fun en w' => en = .returned (.bool (e != 0)) ∧ w' = w := by
  have c5 := H.c5
  have HH := hidden H
  clear H
  go_enter Tryd.func20, Tryd.ntmps20
  go_wp2_with fail
  go_ret
  exact ⟨rfl, rfl⟩
set_option maxRecDepth 100000 in
theorem token_any {t : Tk} (H : Rd B g L w R p d l h e q) (ht : L[p]? = some t) :
    Calls Tryd.prog 18 #[.pointer (some ⟨g, 0, none⟩)] w fun en w' => en = .returned (.agg #[.int .i64 (t.kind : Int), .string ⟨t.text.toArray⟩, .int .i64 (t.n : Int), .int .i64 (t.place : Int)]) ∧ Below w.heap.size w w' := by
  have hp := H.here
  have hm := H.many
  obtain ⟨W, hW⟩ : ∃ W, W = w.alloc (.cells #[.int .i64 0, .string ⟨#[]⟩, .int .i64 0, .int .i64 0] 31) := ⟨_, rfl⟩
  have HB : Hid (Below w.heap.size w W) := by rw [hW]; exact (Below.refl _ _).alloc (Nat.le_refl _) _
  obtain ⟨G, hG⟩ : ∃ G, G = w.heap.size := ⟨_, rfl⟩
  have HG : Hid (Held W G 31 #[.int .i64 0, .string ⟨#[]⟩, .int .i64 0, .int .i64 0]) := by rw [hW, hG]; exact Held.new _ _ _
  have HW := H.below HB.out
  obtain ⟨y0, y1, y2, y3⟩ := HW.toks.at_ ht
  rw [Nat.zero_add] at y0 y1 y2 y3
  have c0 := HW.c0
  have c1 := HW.c1
  have z0 := HG.out.t0
  have z1 := HG.out.t1
  have z2 := HG.out.t2
  have z3 := HG.out.t3
  have f0 := HG.out.frozen 0
  have f1 := HG.out.frozen 1
  have f2 := HG.out.frozen 2
  have f3 := HG.out.frozen 3
  obtain ⟨n, hn⟩ : ∃ n, n = L.length := ⟨_, rfl⟩
  rw [← hn] at hp hm c0
  obtain ⟨S, hS⟩ : ∃ S : ByteArray, S = ⟨t.text.toArray⟩ := ⟨_, rfl⟩
  rw [← hS] at y1 ⊢
  obtain ⟨tb, htb⟩ : ∃ tb, tb = R.tb := ⟨_, rfl⟩
  rw [← htb] at y0 y1 y2 y3 c0
  have hn0 : ((n : Int) == 0) = false := by simp; omega
  have HH := hidden H
  have HHW := hidden HW
  have HGG := hidden hG
  clear H HW ht hn hS htb hG
  go_enter Tryd.func18, Tryd.ntmps18
  rw [veil 1]
  go_wp2_with fail
  rw [← hW, ← HGG.out]
  clear hW
  refine wp_veil ?_
  go_wp2_with fail
  have hwr : IntKind.i64.wrap ((n : Int) - 1) = (n : Int) - 1 := Go.IntWalk.i64_in _ (by omega)
  have hmn : ¬ ((n : Int) - 1 < (p : Int)) := by omega
  go_still_tail 17, (by kernel_rfl)
  change wpList _ _ _ _ _ W.drew
  go_wp2_with fail
  obtain ⟨W', hW', hH, hBel⟩ := four_told HG.out HB.out (by rw [HGG.out]; exact Nat.le_refl _) (.int .i64 (t.kind : Int)) (.string S) (.int .i64 (t.n : Int)) (.int .i64 (t.place : Int))
  rw [← hW']
  have x0 : W'.drew.cell? ⟨G, 0, none⟩ = some (.int .i64 (t.kind : Int)) := hH.t0
  have x1 : W'.drew.cell? ⟨G, 1, none⟩ = some (.string S) := hH.t1
  have x2 : W'.drew.cell? ⟨G, 2, none⟩ = some (.int .i64 (t.n : Int)) := hH.t2
  have x3 : W'.drew.cell? ⟨G, 3, none⟩ = some (.int .i64 (t.place : Int)) := hH.t3
  clear hW' hH
  exact bodyPost_ret (v := .agg #[.int .i64 (t.kind : Int), .string S, .int .i64 (t.n : Int), .int .i64 (t.place : Int)]) (by simp [results, Tryd.results18, go_sem, x0, x1, x2, x3]) rfl ⟨rfl, hBel.drew⟩
theorem Rd.drewN (H : Rd B g L w R p d l h e q) (n : Nat) : Rd B g L (w.drewN n) R p d l h e q := H.below (below_drewN w n _)
theorem isWrong_ok (H : Rd B g L w R p d l h 0 q) :
    Calls Tryd.prog 20 #[.pointer (some ⟨g, 0, none⟩)] w fun en w' => en = .returned (.bool false) ∧ w' = w := isWrong_any H
theorem isWrong_bad (H : Rd B g L w R p d l h e q) (he : e ≠ 0) :
    Calls Tryd.prog 20 #[.pointer (some ⟨g, 0, none⟩)] w fun en w' => en = .returned (.bool true) ∧ w' = w := by
  have := isWrong_any H
  have h1 : (e != 0) = true := by simpa using he
  rw [h1] at this
  exact this
theorem canTake_ok (H : Rd B g L w R p d l h 0 q) :
    Calls Tryd.prog 56 #[.pointer (some ⟨g, 0, none⟩)] w fun en w' => en = .returned (.bool true) ∧ Below w.heap.size w w' := by
  have hp := H.here
  have c0 := H.c0
  have c1 := H.c1
  obtain ⟨n, hn⟩ : ∃ n, n = L.length := ⟨_, rfl⟩
  rw [← hn] at hp c0
  have hpn : ((p : Int) < (n : Int)) := by omega
  have HH := hidden H
  clear H hn
  go_enter Tryd.func56, Tryd.ntmps56
  go_wp2_with fail
  go_quiet (first | (go_at_call 20; refine Calls.quiet_of_same (isWrong_ok (HH.out.drewN _))))
  go_wp2_with fail
  go_ret
  exact ⟨by first | rfl | simp [hp], below_drewN _ _ _⟩
theorem canTake_bad (H : Rd B g L w R p d l h e q) (he : e ≠ 0) :
    Calls Tryd.prog 56 #[.pointer (some ⟨g, 0, none⟩)] w fun en w' => en = .returned (.bool false) ∧ Below w.heap.size w w' := by
  have HH := hidden H
  have HE := hidden he
  clear H he
  go_enter Tryd.func56, Tryd.ntmps56
  go_wp2_with fail
  go_quiet (first | (go_at_call 20; refine Calls.quiet_of_same (isWrong_bad (HH.out.drewN _) HE.out)))
  go_wp2_with fail
  go_ret
  exact ⟨rfl, below_drewN _ _ _⟩
theorem below_then {w w1 w2 : World} (h : Below w.heap.size w w1) (k : Below w1.heap.size w1 w2) : Below w.heap.size w w2 := h.trans (k.mono h.size)
set_option maxRecDepth 100000 in
theorem is_ok {t : Tk} (b : List UInt8) (H : Rd B g L w R p d l h 0 q) (ht : L[p]? = some t) :
    Calls Tryd.prog 53 #[.pointer (some ⟨g, 0, none⟩), .string ⟨b.toArray⟩] w fun en w' => en = .returned (.bool (sees t b)) ∧ Below w.heap.size w w' := by
  have HH := hidden H
  have HT := hidden ht
  clear H ht
  obtain ⟨S, hS⟩ : ∃ S : ByteArray, S = ⟨t.text.toArray⟩ := ⟨_, rfl⟩
  obtain ⟨X, hX⟩ : ∃ X : ByteArray, X = ⟨b.toArray⟩ := ⟨_, rfl⟩
  have hs2 : (S.toList == X.toList) = (t.text == b) := by rw [hS, hX]; exact txt_eq _ _
  have hk3 : ((t.kind : Int) == 3) = (t.kind == 3) := by rw [Bool.eq_iff_iff]; simp; omega
  have hk4 : ((t.kind : Int) == 4) = (t.kind == 4) := by rw [Bool.eq_iff_iff]; simp; omega
  have HTK := token_any HH.out HT.out
  rw [← hS] at HTK
  rw [← hX]
  have HTK' := hidden HTK
  clear HTK hS hX
  obtain ⟨K, hK⟩ : ∃ K : Int, K = t.kind := ⟨_, rfl⟩
  obtain ⟨N, hN⟩ : ∃ N : Int, N = t.n := ⟨_, rfl⟩
  obtain ⟨P, hP⟩ : ∃ P : Int, P = t.place := ⟨_, rfl⟩
  rw [← hK, ← hN, ← hP] at HTK'
  rw [← hK] at hk3 hk4
  have HSE : Hid (sees t b = ((t.kind == 3 || t.kind == 4) && t.text == b)) := rfl
  obtain ⟨V, hV⟩ : ∃ V, V = sees t b := ⟨_, rfl⟩
  rw [← hV] at HSE ⊢
  clear hK hN hP hV
  obtain ⟨b3, hb3⟩ : ∃ b3, b3 = (t.kind == 3) := ⟨_, rfl⟩
  obtain ⟨b4, hb4⟩ : ∃ b4, b4 = (t.kind == 4) := ⟨_, rfl⟩
  obtain ⟨bs, hbs⟩ : ∃ bs, bs = (t.text == b) := ⟨_, rfl⟩
  rw [← hb3, ← hb4, ← hbs] at HSE
  rw [← hb3] at hk3
  rw [← hb4] at hk4
  rw [← hbs] at hs2
  clear hb3 hb4 hbs
  go_enter Tryd.func53, Tryd.ntmps53
  rw [veil 2]
  go_wp2_with fail
  refine HTK'.out.mono ?_
  rintro en w1 ⟨rfl, hb1⟩
  have HB1 := hidden hb1
  clear hb1
  go_wp2_with fail
  obtain ⟨W, hW⟩ : ∃ W, W = w1.alloc (.cells #[.int .i64 K, .string S, .int .i64 N, .int .i64 P] 31) := ⟨_, rfl⟩
  obtain ⟨G, hG⟩ : ∃ G, G = w1.heap.size := ⟨_, rfl⟩
  have HG : Hid (Held W G 31 #[.int .i64 K, .string S, .int .i64 N, .int .i64 P]) := by rw [hW, hG]; exact Held.new _ _ _
  have HB2 : Hid (Below w.heap.size w W) := by rw [hW]; exact HB1.out.alloc HB1.out.size _
  rw [← hW, ← hG]
  clear hW hG
  refine wp_veil ?_
  go_wp2_with fail
  refine (canTake_ok (HH.out.below HB2.out)).mono ?_
  rintro en w2 ⟨rfl, hb2⟩
  have HG2 := HG.out.since hb2
  have z0 := HG2.t0
  have z1 := HG2.t1
  have HB3 := hidden (below_then HB2.out hb2)
  clear hb2 HG2
  cases b3 <;> cases b4 <;> cases bs <;> (go_wp2_with fail; go_ret; exact ⟨by rw [HSE.out]; rfl, HB3.out⟩)
set_option maxRecDepth 100000 in
theorem is_bad (b : List UInt8) (H : Rd B g L w R p d l h e q) (he : e ≠ 0) :
    Calls Tryd.prog 53 #[.pointer (some ⟨g, 0, none⟩), .string ⟨b.toArray⟩] w fun en w' => en = .returned (.bool false) ∧ Below w.heap.size w w' := by
  obtain ⟨t, ht, _⟩ := getD_some H.here
  have HE := hidden he
  have HH := hidden H
  obtain ⟨X, hX⟩ : ∃ X : ByteArray, X = ⟨b.toArray⟩ := ⟨_, rfl⟩
  rw [← hX]
  have HT := hidden ht
  clear H he hX ht
  go_enter Tryd.func53, Tryd.ntmps53
  rw [veil 2]
  go_wp2_with fail
  refine (token_any HH.out HT.out).mono ?_
  rintro en w1 ⟨rfl, hb1⟩
  have HB1 := hidden hb1
  clear hb1
  go_wp2_with fail
  obtain ⟨W, hW⟩ : ∃ W, W = w1.alloc (.cells #[.int .i64 (t.kind : Int), .string ⟨t.text.toArray⟩, .int .i64 (t.n : Int), .int .i64 (t.place : Int)] 31) := ⟨_, rfl⟩
  have HB2 : Hid (Below w.heap.size w W) := by rw [hW]; exact HB1.out.alloc HB1.out.size _
  rw [← hW]
  clear hW
  refine wp_veil ?_
  go_wp2_with fail
  refine (canTake_bad (HH.out.below HB2.out) HE.out).mono ?_
  rintro en w2 ⟨rfl, hb2⟩
  have HB3 := hidden (below_then HB2.out hb2)
  clear hb2
  go_wp2_with fail
  go_ret
  exact ⟨rfl, HB3.out⟩
end Go.Proofs.YtnmeijcaaohnpaaDoor
