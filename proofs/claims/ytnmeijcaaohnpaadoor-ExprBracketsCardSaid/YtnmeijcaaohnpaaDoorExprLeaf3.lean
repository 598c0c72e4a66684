/- The walks through the reader's Want, Name, Open. -/
import Derived.Test.YtnmeijcaaohnpaaDoorExprLeaf2
namespace Go.Proofs.YtnmeijcaaohnpaaDoor
open Go.RowKit
set_option linter.unusedVariables false

variable {B g : Nat} {L : List Tk} {w : World} {R : Bx} {p : Nat} {d e q : Int} {l : List Nd} {h : List Nat}
theorem field_at (a b c x : Value) (w : World) : (Instr.field 31 (.agg #[a, b, c, x]) 3).run Tryd.prog w = .ok x w := by kernel_rfl
theorem want_yes {t : Tk} (b : List UInt8) (H : Rd B g L w R p d l h 0 q) (ht : L[p]? = some t) (hs : sees t b = true) :
    Calls Tryd.prog 60 #[.pointer (some ⟨g, 0, none⟩), .string ⟨b.toArray⟩] w fun en w' => en = .returned (.bool true) ∧ Turned B g L w R (p + 1) d l h 0 q w' := by
  have hI := skip_yes b H ht hs
  obtain ⟨X, hX⟩ : ∃ X : ByteArray, X = ⟨b.toArray⟩ := ⟨_, rfl⟩
  rw [← hX] at hI ⊢
  have HI := hidden hI
  clear hI H ht hs hX
  go_enter Tryd.func60, Tryd.ntmps60
  go_wp2_with fail
  refine HI.out.mono ?_
  rintro en w1 ⟨rfl, hb1⟩
  have HB1 := hidden hb1
  clear hb1
  go_wp2_with fail
  go_ret
  exact ⟨rfl, HB1.out⟩
theorem want_no {t : Tk} (b : List UInt8) (H : Rd B g L w R p d l h 0 q) (ht : L[p]? = some t) (hs : sees t b = false) :
    Calls Tryd.prog 60 #[.pointer (some ⟨g, 0, none⟩), .string ⟨b.toArray⟩] w fun en w' => en = .returned (.bool false) ∧ Turned B g L w R p d l h 8 (t.place : Int) w' := by
  have hI := skip_no b H ht hs
  obtain ⟨X, hX⟩ : ∃ X : ByteArray, X = ⟨b.toArray⟩ := ⟨_, rfl⟩
  rw [← hX] at hI ⊢
  have HI := hidden hI
  have HH := hidden H
  have HT := hidden ht
  have hfd := field_at
  clear hI H ht hs hX
  go_enter Tryd.func60, Tryd.ntmps60
  go_wp2_with fail
  refine HI.out.mono ?_
  rintro en w1 ⟨rfl, hb1⟩
  have HB1 := hidden hb1
  clear hb1
  go_wp2_with fail
  refine (token_any (HH.out.below HB1.out) HT.out).mono ?_
  rintro en w2 ⟨rfl, hb2⟩
  have HB2 := hidden (below_then HB1.out hb2)
  clear hb2
  go_wp2_with fail
  refine (fail_ok 8 (t.place : Int) (by decide) (HH.out.below HB2.out)).mono ?_
  rintro en w3 ⟨⟨v, rfl⟩, hb3⟩
  have HB3 := hidden ((Turned.of_below HH.out HB2.out).then hb3)
  clear hb3
  go_wp2_with fail
  go_ret
  exact ⟨rfl, HB3.out⟩
theorem want_bad (b : List UInt8) (H : Rd B g L w R p d l h e q) (he : e ≠ 0) :
    Calls Tryd.prog 60 #[.pointer (some ⟨g, 0, none⟩), .string ⟨b.toArray⟩] w fun en w' => en = .returned (.bool false) ∧ Below w.heap.size w w' := by
  have hI := skip_bad b H he
  obtain ⟨t, ht, _⟩ := getD_some H.here
  obtain ⟨X, hX⟩ : ∃ X : ByteArray, X = ⟨b.toArray⟩ := ⟨_, rfl⟩
  rw [← hX] at hI ⊢
  have HI := hidden hI
  have HH := hidden H
  have HT := hidden ht
  have HE := hidden he
  have hfd := field_at
  clear hI H ht he hX
  go_enter Tryd.func60, Tryd.ntmps60
  go_wp2_with fail
  refine HI.out.mono ?_
  rintro en w1 ⟨rfl, hb1⟩
  have HB1 := hidden hb1
  clear hb1
  go_wp2_with fail
  refine (token_any (HH.out.below HB1.out) HT.out).mono ?_
  rintro en w2 ⟨rfl, hb2⟩
  have HB2 := hidden (below_then HB1.out hb2)
  clear hb2
  go_wp2_with fail
  refine (fail_bad 8 (t.place : Int) (HH.out.below HB2.out) HE.out (by decide)).mono ?_
  rintro en w3 ⟨⟨v, rfl⟩, hw3⟩
  rw [hw3]; clear hw3 w3
  go_wp2_with fail
  go_ret
  exact ⟨rfl, HB2.out⟩
theorem name_yes {t : Tk} (H : Rd B g L w R p d l h 0 q) (ht : L[p]? = some t) (hs : t.kind = 1) :
    Calls Tryd.prog 58 #[.pointer (some ⟨g, 0, none⟩)] w fun en w' => en = .returned (.string ⟨t.text.toArray⟩) ∧ Turned B g L w R (p + 1) d l h 0 q w' := by
  have HH := hidden H
  have HT := hidden ht
  have hI := token_any H ht
  rw [hs] at hI
  have HS := hidden hs
  obtain ⟨X, hX⟩ : ∃ X : ByteArray, X = ⟨t.text.toArray⟩ := ⟨_, rfl⟩
  rw [← hX] at hI ⊢
  obtain ⟨N, hN⟩ : ∃ N : Int, N = t.n := ⟨_, rfl⟩
  obtain ⟨P, hP⟩ : ∃ P : Int, P = t.place := ⟨_, rfl⟩
  rw [← hN, ← hP] at hI
  have HI := hidden hI
  have hm : p < 100000 := by have := H.here; have := H.many; omega
  clear H ht hs hI hN hP hX
  go_enter Tryd.func58, Tryd.ntmps58
  rw [veil 2, veil 5, veil 6]
  go_wp2_with fail
  refine HI.out.mono ?_
  rintro en w1 ⟨rfl, hb1⟩
  have HB1 := hidden hb1
  clear hb1
  go_wp2_with fail
  obtain ⟨W, hW⟩ : ∃ W, W = w1.alloc (.cells #[.int .i64 ((1 : Nat) : Int), .string X, .int .i64 N, .int .i64 P] 31) := ⟨_, rfl⟩
  obtain ⟨G, hG⟩ : ∃ G, G = w1.heap.size := ⟨_, rfl⟩
  have HG : Hid (Held W G 31 #[.int .i64 ((1 : Nat) : Int), .string X, .int .i64 N, .int .i64 P]) := by rw [hW, hG]; exact Held.new _ _ _
  have HB2 : Hid (Below w.heap.size w W) := by rw [hW]; exact HB1.out.alloc HB1.out.size _
  have HGL : Hid (w.heap.size ≤ G) := by rw [hG]; exact HB1.out.size
  simp only [Int.natCast_one] at hW
  rw [← hW, ← hG]
  clear hW hG
  have z0 := HG.out.t0
  refine wp_veil ?_
  go_wp2_with fail
  refine (canTake_ok (HH.out.below HB2.out)).mono ?_
  rintro en w2 ⟨rfl, hb2⟩
  have HG2 := hidden (HG.out.since hb2)
  have HB3 := hidden (below_then HB2.out hb2)
  have HH3 := hidden (HH.out.below HB3.out)
  clear hb2 z0
  go_wp2_with fail
  refine wp_veil ?_
  have c1 := HH3.out.c1
  have f1 := HH3.out.box.frozen 1
  have HGne : Hid (G ≠ g) := by have := HH.out.box.lt; have := HGL.out; show G ≠ g; omega
  go_wp2_with fail
  refine wp_veil ?_
  have HT4 := HH3.out.take HT.out (by rw [HS.out]; decide) _ rfl
  have z1 := (HG2.out.off (g' := g) HGne.out 1 (.int .i64 ((p : Int) + 1))).t1
  obtain ⟨W4, hW4⟩ : ∃ W4, W4 = w2.setCell ⟨g, 1, none⟩ (.int .i64 ((p : Int) + 1)) := ⟨_, rfl⟩
  rw [← hW4] at HT4 z1 ⊢
  have HT5 := hidden ((Turned.of_below HH.out HB3.out).then HT4)
  clear HT4 hW4
  go_wp2_with fail
  go_ret
  exact ⟨rfl, HT5.out⟩
theorem name_no {t : Tk} (H : Rd B g L w R p d l h 0 q) (ht : L[p]? = some t) (hs : t.kind ≠ 1) :
    Calls Tryd.prog 58 #[.pointer (some ⟨g, 0, none⟩)] w fun en w' => en = .returned (.string ⟨#[]⟩) ∧ Turned B g L w R p d l h 8 (t.place : Int) w' := by
  have HH := hidden H
  have hI := token_any H ht
  have hk : ((t.kind : Int) != 1) = true := by simp; omega
  obtain ⟨X, hX⟩ : ∃ X : ByteArray, X = ⟨t.text.toArray⟩ := ⟨_, rfl⟩
  obtain ⟨N, hN⟩ : ∃ N : Int, N = t.n := ⟨_, rfl⟩
  obtain ⟨P, hP⟩ : ∃ P : Int, P = t.place := ⟨_, rfl⟩
  obtain ⟨K, hK⟩ : ∃ K : Int, K = t.kind := ⟨_, rfl⟩
  rw [← hN, ← hP, ← hX, ← hK] at hI
  rw [← hK] at hk
  rw [← hP]
  have HI := hidden hI
  clear H ht hs hI hN hP hX hK
  go_enter Tryd.func58, Tryd.ntmps58
  rw [veil 2]
  go_wp2_with fail
  refine HI.out.mono ?_
  rintro en w1 ⟨rfl, hb1⟩
  have HB1 := hidden hb1
  clear hb1
  go_wp2_with fail
  obtain ⟨W, hW⟩ : ∃ W, W = w1.alloc (.cells #[.int .i64 K, .string X, .int .i64 N, .int .i64 P] 31) := ⟨_, rfl⟩
  obtain ⟨G, hG⟩ : ∃ G, G = w1.heap.size := ⟨_, rfl⟩
  have HG : Hid (Held W G 31 #[.int .i64 K, .string X, .int .i64 N, .int .i64 P]) := by rw [hW, hG]; exact Held.new _ _ _
  have HB2 : Hid (Below w.heap.size w W) := by rw [hW]; exact HB1.out.alloc HB1.out.size _
  rw [← hW, ← hG]
  clear hW hG
  have z0 := HG.out.t0
  have z3 := HG.out.t3
  refine wp_veil ?_
  go_wp2_with fail
  refine (fail_ok 8 P (by decide) (HH.out.below HB2.out)).mono ?_
  rintro en w3 ⟨⟨v, rfl⟩, hb3⟩
  have HB3 := hidden ((Turned.of_below HH.out HB2.out).then hb3)
  clear hb3
  go_wp2_with fail
  go_ret
  exact ⟨rfl, HB3.out⟩
theorem name_bad (H : Rd B g L w R p d l h e q) (he : e ≠ 0) :
    Calls Tryd.prog 58 #[.pointer (some ⟨g, 0, none⟩)] w fun en w' => en = .returned (.string ⟨#[]⟩) ∧ Below w.heap.size w w' := by
  have HH := hidden H
  have HE := hidden he
  obtain ⟨t, ht, _⟩ := getD_some H.here
  have hI := token_any H ht
  obtain ⟨X, hX⟩ : ∃ X : ByteArray, X = ⟨t.text.toArray⟩ := ⟨_, rfl⟩
  obtain ⟨N, hN⟩ : ∃ N : Int, N = t.n := ⟨_, rfl⟩
  obtain ⟨P, hP⟩ : ∃ P : Int, P = t.place := ⟨_, rfl⟩
  obtain ⟨K, hK⟩ : ∃ K : Int, K = t.kind := ⟨_, rfl⟩
  rw [← hN, ← hP, ← hX, ← hK] at hI
  have HI := hidden hI
  clear H ht he hI hN hP hX hK
  go_enter Tryd.func58, Tryd.ntmps58
  rw [veil 2]
  go_wp2_with fail
  refine HI.out.mono ?_
  rintro en w1 ⟨rfl, hb1⟩
  have HB1 := hidden hb1
  clear hb1
  go_wp2_with fail
  obtain ⟨W, hW⟩ : ∃ W, W = w1.alloc (.cells #[.int .i64 K, .string X, .int .i64 N, .int .i64 P] 31) := ⟨_, rfl⟩
  obtain ⟨G, hG⟩ : ∃ G, G = w1.heap.size := ⟨_, rfl⟩
  have HG : Hid (Held W G 31 #[.int .i64 K, .string X, .int .i64 N, .int .i64 P]) := by rw [hW, hG]; exact Held.new _ _ _
  have HB2 : Hid (Below w.heap.size w W) := by rw [hW]; exact HB1.out.alloc HB1.out.size _
  rw [← hW, ← hG]
  clear hW hG
  have z0 := HG.out.t0
  have z3 := HG.out.t3
  refine wp_veil ?_
  by_cases hk1 : K = 1
  · have hk : (K != 1) = false := by simpa using hk1
    clear hk1
    go_wp2_with fail
    refine (canTake_bad (HH.out.below HB2.out) HE.out).mono ?_
    rintro en w2 ⟨rfl, hb2⟩
    have HG2 := hidden (HG.out.since hb2)
    have HB3 := hidden (below_then HB2.out hb2)
    clear hb2 z0 z3
    have z3 := HG2.out.t3
    go_wp2_with fail
    refine (fail_bad 8 P (HH.out.below HB3.out) HE.out (by decide)).mono ?_
    rintro en w3 ⟨⟨v, rfl⟩, hw3⟩
    rw [hw3]; clear hw3 w3
    go_wp2_with fail
    go_ret
    exact ⟨rfl, HB3.out⟩
  · have hk : (K != 1) = true := by simpa using hk1
    clear hk1
    go_wp2_with fail
    refine (fail_bad 8 P (HH.out.below HB2.out) HE.out (by decide)).mono ?_
    rintro en w3 ⟨⟨v, rfl⟩, hw3⟩
    rw [hw3]; clear hw3 w3
    go_wp2_with fail
    go_ret
    exact ⟨rfl, HB2.out⟩
/-- a level is opened -/
theorem Rd.depth (H : Rd B g L w R p d l h e q) (d' : Int) (u : Value) (hu : u = .int .i64 d') : Turned B g L w R p d' l h e q (w.setCell ⟨g, 2, none⟩ u) := by
  subst hu
  exact ⟨H.store rfl H.here H.few, Fr.store (B := B) (L := L) 2 _⟩
theorem open_ok (at_ : Int) (H : Rd B g L w R p d l h 0 q) (hd : -1000000 ≤ d ∧ d < 200) :
    Calls Tryd.prog 50 #[.pointer (some ⟨g, 0, none⟩), .int .i64 at_] w fun en w' => en = .returned (.bool true) ∧ Turned B g L w R p (d + 1) l h 0 q w' := by
  have c2 := H.c2
  have f2 := H.box.frozen 2
  obtain ⟨hd1, hd2⟩ := hd
  have HH := hidden H
  clear H
  have hd3 : ¬ (200 < d + 1) := by omega
  go_enter Tryd.func50, Tryd.ntmps50
  rw [veil 4]
  go_wp2_with fail
  have HT := HH.out.depth (d + 1) _ rfl
  obtain ⟨W, hW⟩ : ∃ W, W = w.setCell ⟨g, 2, none⟩ (.int .i64 (d + 1)) := ⟨_, rfl⟩
  rw [← hW] at HT ⊢
  have c2' := HT.1.c2
  have HTT := hidden HT
  clear HT hW c2 f2
  refine wp_veil ?_
  go_wp2_with fail
  refine (isWrong_ok HTT.out.1).mono ?_
  rintro en w1 ⟨rfl, hw1⟩
  rw [hw1]; clear hw1 w1
  go_wp2_with fail
  go_ret
  exact ⟨rfl, HTT.out⟩
theorem open_deep (at_ : Int) (H : Rd B g L w R p d l h 0 q) (hd : 200 ≤ d ∧ d ≤ 1000000) :
    Calls Tryd.prog 50 #[.pointer (some ⟨g, 0, none⟩), .int .i64 at_] w fun en w' => en = .returned (.bool false) ∧ Turned B g L w R p (d + 1) l h 4 at_ w' := by
  have c2 := H.c2
  have f2 := H.box.frozen 2
  obtain ⟨hd1, hd2⟩ := hd
  have HH := hidden H
  clear H
  have hd3 : 200 < d + 1 := by omega
  go_enter Tryd.func50, Tryd.ntmps50
  rw [veil 4]
  go_wp2_with fail
  have HT := HH.out.depth (d + 1) _ rfl
  obtain ⟨W, hW⟩ : ∃ W, W = w.setCell ⟨g, 2, none⟩ (.int .i64 (d + 1)) := ⟨_, rfl⟩
  rw [← hW] at HT ⊢
  have c2' := HT.1.c2
  have HTT := hidden HT
  clear HT hW c2 f2
  refine wp_veil ?_
  go_wp2_with fail
  refine (fail_ok 4 at_ (by decide) HTT.out.1).mono ?_
  rintro en w1 ⟨⟨v, rfl⟩, hb1⟩
  have HB1 := hidden (HTT.out.then hb1)
  clear hb1
  go_wp2_with fail
  refine (isWrong_bad HB1.out.1 (by decide)).mono ?_
  rintro en w2 ⟨rfl, hw2⟩
  rw [hw2]; clear hw2 w2
  go_wp2_with fail
  go_ret
  exact ⟨rfl, HB1.out⟩
theorem open_bad (at_ : Int) (H : Rd B g L w R p d l h e q) (hd : -1000000 ≤ d ∧ d ≤ 1000000) (he : e ≠ 0) :
    Calls Tryd.prog 50 #[.pointer (some ⟨g, 0, none⟩), .int .i64 at_] w fun en w' => en = .returned (.bool false) ∧ Turned B g L w R p (d + 1) l h e q w' := by
  have c2 := H.c2
  have f2 := H.box.frozen 2
  obtain ⟨hd1, hd2⟩ := hd
  have HH := hidden H
  have HE := hidden he
  clear H he
  go_enter Tryd.func50, Tryd.ntmps50
  rw [veil 4]
  go_wp2_with fail
  have HT := HH.out.depth (d + 1) _ rfl
  obtain ⟨W, hW⟩ : ∃ W, W = w.setCell ⟨g, 2, none⟩ (.int .i64 (d + 1)) := ⟨_, rfl⟩
  rw [← hW] at HT ⊢
  have c2' := HT.1.c2
  have HTT := hidden HT
  clear HT hW c2 f2
  refine wp_veil ?_
  by_cases hd3 : 200 < d + 1
  · go_wp2_with fail
    refine (fail_bad 4 at_ HTT.out.1 HE.out (by decide)).mono ?_
    rintro en w1 ⟨⟨v, rfl⟩, hw1⟩
    rw [hw1]; clear hw1 w1
    go_wp2_with fail
    refine (isWrong_bad HTT.out.1 HE.out).mono ?_
    rintro en w2 ⟨rfl, hw2⟩
    rw [hw2]; clear hw2 w2
    go_wp2_with fail
    go_ret
    exact ⟨rfl, HTT.out⟩
  · go_wp2_with fail
    refine (isWrong_bad HTT.out.1 HE.out).mono ?_
    rintro en w2 ⟨rfl, hw2⟩
    rw [hw2]; clear hw2 w2
    go_wp2_with fail
    go_ret
    exact ⟨rfl, HTT.out⟩
end Go.Proofs.YtnmeijcaaohnpaaDoor
