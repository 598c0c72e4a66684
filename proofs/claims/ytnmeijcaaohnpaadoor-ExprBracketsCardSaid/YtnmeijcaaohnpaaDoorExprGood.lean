/- The reader's small functions, told by what is left to read. -/
import Derived.Test.YtnmeijcaaohnpaaDoorExprPut
namespace Go.Proofs.YtnmeijcaaohnpaaDoor
open Go.RowKit
set_option linter.unusedVariables false

variable {B g : Nat} {L : List Tk} {w : World} {R : Bx} {d : Nat} {s : PS} {f : Flt}
theorem is_some {b : List UInt8} (h : s.is b = true) : s.next.r.length + 1 = s.r.length := by
  unfold PS.is PS.tok at h
  cases hr : s.r with
  | nil => rw [hr] at h; exact absurd rfl (sees_kind h)
  | cons t r => unfold PS.next; rw [hr]; rfl
theorem kind_some (h : s.tok.kind ≠ 0) : s.next.r.length + 1 = s.r.length := by
  unfold PS.tok at h
  cases hr : s.r with
  | nil => rw [hr] at h; exact absurd rfl h
  | cons t r => unfold PS.next; rw [hr]; rfl
theorem Good.size (H : Good B g L w R d s) : s.l.length + s.r.length ≤ L.length := by
  obtain ⟨p, l, h, hr, hl⟩ := H
  have := h.few
  have := h.here
  rw [hl, hr, List.length_map, List.length_drop]
  omega
theorem Good.base (H : Good B g L w R d s) {w' : World} {R' : Bx} (F : Fr g w w' R R') : Below B w w' := by
  obtain ⟨p, l, h, hr, hl⟩ := H
  exact h.toCore.below_base F
theorem Good.some (H : Good B g L w R d s) : 0 < s.r.length := by
  obtain ⟨p, l, h, hr, hl⟩ := H
  have := h.here
  rw [hr, List.length_drop]
  omega
theorem g_token (H : Good B g L w R d s) :
    Calls Tryd.prog 18 #[.pointer (some ⟨g, 0, none⟩)] w fun en w' => en = .returned (.agg #[.int .i64 (s.tok.kind : Int), .string ⟨s.tok.text.toArray⟩, .int .i64 (s.tok.n : Int), .int .i64 (s.tok.place : Int)]) ∧ Below w.heap.size w w' := by
  obtain ⟨p, l, h, _, _, ht, _⟩ := H.tok
  exact token_any h ht
theorem b_token (H : Bad B g L w R d f) :
    Calls Tryd.prog 18 #[.pointer (some ⟨g, 0, none⟩)] w fun en w' => ∃ (k n a : Nat) (x : ByteArray), en = .returned (.agg #[.int .i64 (k : Int), .string x, .int .i64 (n : Int), .int .i64 (a : Int)]) ∧ Below w.heap.size w w' := by
  obtain ⟨p, l, h, H, _⟩ := H
  obtain ⟨t, ht, _⟩ := getD_some H.here
  exact (token_any H ht).mono fun en w' ⟨h1, h2⟩ => ⟨_, _, _, _, h1, h2⟩
theorem g_is (b : List UInt8) (H : Good B g L w R d s) :
    Calls Tryd.prog 53 #[.pointer (some ⟨g, 0, none⟩), .string ⟨b.toArray⟩] w fun en w' => en = .returned (.bool (s.is b)) ∧ Below w.heap.size w w' := by
  obtain ⟨p, l, h, _, _, ht, _⟩ := H.tok
  exact is_ok b h ht
theorem b_is (b : List UInt8) (H : Bad B g L w R d f) :
    Calls Tryd.prog 53 #[.pointer (some ⟨g, 0, none⟩), .string ⟨b.toArray⟩] w fun en w' => en = .returned (.bool false) ∧ Below w.heap.size w w' := by
  obtain ⟨p, l, h, H, hf⟩ := H
  exact is_bad b H (by omega)
theorem g_canTake (H : Good B g L w R d s) :
    Calls Tryd.prog 56 #[.pointer (some ⟨g, 0, none⟩)] w fun en w' => en = .returned (.bool true) ∧ Below w.heap.size w w' := by
  obtain ⟨p, l, h, _⟩ := H
  exact canTake_ok h
theorem b_canTake (H : Bad B g L w R d f) :
    Calls Tryd.prog 56 #[.pointer (some ⟨g, 0, none⟩)] w fun en w' => en = .returned (.bool false) ∧ Below w.heap.size w w' := by
  obtain ⟨p, l, h, H, hf⟩ := H
  exact canTake_bad H (by omega)
/-- the next token is taken -/
theorem Good.of_take {p : Nat} {l : List Nd} {w' : World} (hl : s.l = l.map bare) (hr : s.next.r = L.drop (p + 1)) (H : Turned B g L w R (p + 1) (d : Int) l s.h 0 0 w') : Good B g L w' R d s.next ∧ Fr g w w' R R :=
  ⟨⟨p + 1, l, H.1, hr, hl⟩, H.2⟩
theorem g_skip_yes (b : List UInt8) (H : Good B g L w R d s) (hs : s.is b = true) :
    Calls Tryd.prog 48 #[.pointer (some ⟨g, 0, none⟩), .string ⟨b.toArray⟩] w fun en w' => en = .returned (.bool true) ∧ Good B g L w' R d s.next ∧ Fr g w w' R R := by
  obtain ⟨p, l, h, _, hl, ht, hr⟩ := H.tok
  exact (skip_yes b h ht hs).mono fun en w' ⟨h1, h2⟩ => ⟨h1, Good.of_take hl hr h2⟩
theorem g_skip_no (b : List UInt8) (H : Good B g L w R d s) (hs : s.is b = false) :
    Calls Tryd.prog 48 #[.pointer (some ⟨g, 0, none⟩), .string ⟨b.toArray⟩] w fun en w' => en = .returned (.bool false) ∧ Below w.heap.size w w' := by
  obtain ⟨p, l, h, _, hl, ht, hr⟩ := H.tok
  exact skip_no b h ht hs
theorem b_skip (b : List UInt8) (H : Bad B g L w R d f) :
    Calls Tryd.prog 48 #[.pointer (some ⟨g, 0, none⟩), .string ⟨b.toArray⟩] w fun en w' => en = .returned (.bool false) ∧ Below w.heap.size w w' := by
  obtain ⟨p, l, h, H, hf⟩ := H
  exact skip_bad b H (by omega)
theorem g_want_yes (b : List UInt8) (H : Good B g L w R d s) (hs : s.is b = true) :
    Calls Tryd.prog 60 #[.pointer (some ⟨g, 0, none⟩), .string ⟨b.toArray⟩] w fun en w' => en = .returned (.bool true) ∧ Good B g L w' R d s.next ∧ Fr g w w' R R := by
  obtain ⟨p, l, h, _, hl, ht, hr⟩ := H.tok
  exact (want_yes b h ht hs).mono fun en w' ⟨h1, h2⟩ => ⟨h1, Good.of_take hl hr h2⟩
theorem g_want_no (b : List UInt8) (H : Good B g L w R d s) (hs : s.is b = false) :
    Calls Tryd.prog 60 #[.pointer (some ⟨g, 0, none⟩), .string ⟨b.toArray⟩] w fun en w' => en = .returned (.bool false) ∧ Bad B g L w' R d (8, s.tok.place) ∧ Fr g w w' R R := by
  obtain ⟨p, l, h, _, hl, ht, hr⟩ := H.tok
  exact (want_no b h ht hs).mono fun en w' ⟨h1, h2⟩ => ⟨h1, ⟨p, l, s.h, h2.1, by show 8 ≠ 0; decide⟩, h2.2⟩
theorem b_want (b : List UInt8) (H : Bad B g L w R d f) :
    Calls Tryd.prog 60 #[.pointer (some ⟨g, 0, none⟩), .string ⟨b.toArray⟩] w fun en w' => en = .returned (.bool false) ∧ Below w.heap.size w w' := by
  obtain ⟨p, l, h, H, hf⟩ := H
  exact want_bad b H (by omega)
theorem g_name_yes (H : Good B g L w R d s) (hs : s.tok.kind = 1) :
    Calls Tryd.prog 58 #[.pointer (some ⟨g, 0, none⟩)] w fun en w' => en = .returned (.string ⟨s.tok.text.toArray⟩) ∧ Good B g L w' R d s.next ∧ Fr g w w' R R := by
  obtain ⟨p, l, h, _, hl, ht, hr⟩ := H.tok
  exact (name_yes h ht hs).mono fun en w' ⟨h1, h2⟩ => ⟨h1, Good.of_take hl hr h2⟩
theorem g_name_no (H : Good B g L w R d s) (hs : s.tok.kind ≠ 1) :
    Calls Tryd.prog 58 #[.pointer (some ⟨g, 0, none⟩)] w fun en w' => en = .returned (.string ⟨#[]⟩) ∧ Bad B g L w' R d (8, s.tok.place) ∧ Fr g w w' R R := by
  obtain ⟨p, l, h, _, hl, ht, hr⟩ := H.tok
  exact (name_no h ht hs).mono fun en w' ⟨h1, h2⟩ => ⟨h1, ⟨p, l, s.h, h2.1, by show 8 ≠ 0; decide⟩, h2.2⟩
theorem b_name (H : Bad B g L w R d f) :
    Calls Tryd.prog 58 #[.pointer (some ⟨g, 0, none⟩)] w fun en w' => en = .returned (.string ⟨#[]⟩) ∧ Below w.heap.size w w' := by
  obtain ⟨p, l, h, H, hf⟩ := H
  exact name_bad H (by omega)
theorem g_open_ok (a : Nat) (H : Good B g L w R d s) (hd : d < 200) :
    Calls Tryd.prog 50 #[.pointer (some ⟨g, 0, none⟩), .int .i64 (a : Int)] w fun en w' => en = .returned (.bool true) ∧ Good B g L w' R (d + 1) s ∧ Fr g w w' R R := by
  obtain ⟨p, l, h, hr, hl⟩ := H
  exact (open_ok (a : Int) h (by omega)).mono fun en w' ⟨h1, h2⟩ => ⟨h1, ⟨p, l, by have := h2.1; exact this, hr, hl⟩, h2.2⟩
theorem g_open_deep (a : Nat) (H : Good B g L w R d s) (hd : 200 ≤ d) (hd2 : d ≤ 1000) :
    Calls Tryd.prog 50 #[.pointer (some ⟨g, 0, none⟩), .int .i64 (a : Int)] w fun en w' => en = .returned (.bool false) ∧ Bad B g L w' R (d + 1) (4, a) ∧ Fr g w w' R R := by
  obtain ⟨p, l, h, hr, hl⟩ := H
  exact (open_deep (a : Int) h (by omega)).mono fun en w' ⟨h1, h2⟩ => ⟨h1, ⟨p, l, s.h, by have := h2.1; exact this, by show 4 ≠ 0; decide⟩, h2.2⟩
theorem b_open (a : Nat) (H : Bad B g L w R d f) (hd2 : d ≤ 1000) :
    Calls Tryd.prog 50 #[.pointer (some ⟨g, 0, none⟩), .int .i64 (a : Int)] w fun en w' => en = .returned (.bool false) ∧ Bad B g L w' R (d + 1) f ∧ Fr g w w' R R := by
  obtain ⟨p, l, h, H, hf⟩ := H
  exact (open_bad (a : Int) H (by omega) (by omega)).mono fun en w' ⟨h1, h2⟩ => ⟨h1, ⟨p, l, h, by have := h2.1; exact this, hf⟩, h2.2⟩
theorem g_close (H : Good B g L w R (d + 1) s) (hd2 : d ≤ 1000) :
    Calls Tryd.prog 51 #[.pointer (some ⟨g, 0, none⟩)] w fun en w' => (∃ v, en = .returned v) ∧ Good B g L w' R d s ∧ Fr g w w' R R := by
  obtain ⟨p, l, h, hr, hl⟩ := H
  refine (close_any h (by omega)).mono fun en w' ⟨h1, h2⟩ => ⟨h1, ⟨p, l, ?_, hr, hl⟩, h2.2⟩
  have := h2.1
  rw [show ((d + 1 : Nat) : Int) - 1 = (d : Int) by omega] at this
  exact this
theorem b_close (H : Bad B g L w R (d + 1) f) (hd2 : d ≤ 1000) :
    Calls Tryd.prog 51 #[.pointer (some ⟨g, 0, none⟩)] w fun en w' => (∃ v, en = .returned v) ∧ Bad B g L w' R d f ∧ Fr g w w' R R := by
  obtain ⟨p, l, h, H, hf⟩ := H
  refine (close_any H (by omega)).mono fun en w' ⟨h1, h2⟩ => ⟨h1, ⟨p, l, h, ?_, hf⟩, h2.2⟩
  have := h2.1
  rw [show ((d + 1 : Nat) : Int) - 1 = (d : Int) by omega] at this
  exact this
theorem g_fail (x a : Nat) (hx : x ≠ 0) (H : Good B g L w R d s) :
    Calls Tryd.prog 19 #[.pointer (some ⟨g, 0, none⟩), .int .i64 (x : Int), .int .i64 (a : Int)] w fun en w' => (∃ v, en = .returned v) ∧ Bad B g L w' R d (x, a) ∧ Fr g w w' R R := by
  obtain ⟨p, l, h, hr, hl⟩ := H
  exact (fail_ok (x : Int) (a : Int) (by omega) h).mono fun en w' ⟨h1, h2⟩ => ⟨h1, ⟨p, l, s.h, h2.1, hx⟩, h2.2⟩
/-- how much there is to do: nothing behind what was noted -/
def lam (g n : Nat) (w : World) : Nat := match w.cell? ⟨g, 5, none⟩, w.cell? ⟨g, 1, none⟩ with
  | some (.int _ e), some (.int _ p) => if e = 0 then n - p.toNat else 0
  | _, _ => 0
theorem Good.lam (H : Good B g L w R d s) : lam g L.length w = s.r.length := by
  obtain ⟨p, l, h, hr, hl⟩ := H
  unfold Go.Proofs.YtnmeijcaaohnpaaDoor.lam
  rw [h.c5, h.c1]
  show (if (0 : Int) = 0 then _ else _) = _
  rw [if_pos rfl, hr, List.length_drop]
  rfl
theorem Bad.lam (H : Bad B g L w R d f) : lam g L.length w = 0 := by
  obtain ⟨p, l, h, H, hf⟩ := H
  unfold Go.Proofs.YtnmeijcaaohnpaaDoor.lam
  rw [H.c5, H.c1]
  show (if (f.1 : Int) = 0 then _ else _) = _
  rw [if_neg (by omega)]
/-- another block stays -/
theorem Good.held {w' : World} {R' : Bx} {G : Nat} {t : TypeId} {cs : Array Value} (H : Good B g L w R d s) (F : Fr g w w' R R') (h : Held w G t cs) (h1 : t ≠ 66) (h2 : t ≠ 37) (h3 : t ≠ 3) : Held w' G t cs := by
  obtain ⟨p, l, H, _⟩ := H
  refine h.block (F.block G h.lt ?_ (own_ne H.own h (fun e => h2 e.symm)) (own_ne H.hts h (fun e => h3 e.symm)))
  intro e
  subst e
  have h4 : w.heap[G]? = _ := H.box
  have h5 : w.heap[G]? = _ := h
  rw [h4] at h5
  injection h5 with h6
  injection h6 with _ h7
  exact h1 h7.symm
/-- what is read, and what lies in memory then -/
def Ends (B g : Nat) (L : List Tk) (w : World) (R : Bx) (d : Nat) (v : Out) (en : Ending) (w' : World) : Prop :=
  ∃ R', Fr g w w' R R' ∧ R'.Z = R.Z ∧ ((∃ k s', v = .ok ([k], s') ∧ en = .returned (.int .i64 k) ∧ Good B g L w' R' d s') ∨ (∃ f, v = .error f ∧ en = .returned (.int .i64 (-1)) ∧ Bad B g L w' R' d f))
theorem g_put {B' : Nat} (x : Nd) (a : Nat) (H : Good B g L w R d s) (hk : Now B' w (kidV x) x.kids) (hf : s.l.length + s.r.length < L.length) (hn : x.kids.length ≤ 100) (ha : x.at_ = (a : Int)) :
    Calls Tryd.prog 49 #[.pointer (some ⟨g, 0, none⟩), .agg #[.int .i64 x.kind, .slice x.ka x.kids.length x.kc, .int .i64 x.n, .string x.s, .int .i64 x.at_]] w (Ends B g L w R d (lay (bare x) s)) := by
  obtain ⟨p, l, h, hr, hl⟩ := H
  have hh := h.here
  have hll : s.l.length = l.length := by rw [hl, List.length_map]
  refine (put_ok x h hk (by rw [hll, hr, List.length_drop] at hf; omega) hn).mono ?_
  rintro en w' (⟨h1, h2, R', y, hzz, hy, hR, hF⟩ | ⟨h1, h2, hT⟩)
  · refine ⟨R', hF, hzz, .inl ⟨(s.l.length : Int), ⟨s.r, s.l ++ [bare x], s.h ++ [high s.h x.kids]⟩, ?_, by rw [hll]; exact h2, p, l ++ [y], hR, hr, ?_⟩⟩
    · unfold lay
      rw [if_neg (by show ¬ 200 < high s.h x.kids; omega)]
      rfl
    · show s.l ++ [bare x] = _
      rw [List.map_append, hl, ← hy]
      rfl
  · refine ⟨R, hT.2, rfl, .inr ⟨(4, a), ?_, h2, p, l, s.h, ?_, by show 4 ≠ 0; decide⟩⟩
    · unfold lay
      rw [if_pos (by show 200 < high s.h x.kids; omega)]
      show Except.error (4, x.at_.toNat) = _
      rw [ha]
      rfl
    · have := hT.1
      rw [ha] at this
      exact this
theorem b_put (c0 c1 c2 c3 c4 : Value) (H : Bad B g L w R d f) :
    Calls Tryd.prog 49 #[.pointer (some ⟨g, 0, none⟩), .agg #[c0, c1, c2, c3, c4]] w fun en w' => en = .returned (.int .i64 (-1)) ∧ Below w.heap.size w w' := by
  obtain ⟨p, l, h, H, hf⟩ := H
  exact put_bad c0 c1 c2 c3 c4 H (by omega)
/-- kids that were listed just now -/
theorem now_new (w : World) (xs : List Int) (cs : Array Value) (hcs : cs = (xs.map (Value.int .i64)).toArray) (hx : xs.length ≤ 100) (n : Nat) (hn : n = xs.length) : Now w.heap.size (w.alloc (.cells cs 3)) (.slice (some ⟨w.heap.size, 0, none⟩) n n) xs := by
  subst hn
  refine ⟨by rw [List.length_map, Nat.mul_one], .inr ⟨w.heap.size, xs.length, cs, rfl, Nat.le_refl _, Held.new w _ cs, Nat.le_refl _, by unfold maxLen; omega, by rw [hcs]; simp, by rw [hcs, Nat.mul_one]; exact List.take_of_length_le (by simp)⟩⟩
end Go.Proofs.YtnmeijcaaohnpaaDoor
