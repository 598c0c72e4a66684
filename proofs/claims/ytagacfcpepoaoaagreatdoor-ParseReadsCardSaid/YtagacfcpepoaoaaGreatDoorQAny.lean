/- RefAny, RefRun, in one text. -/
import Derived.Test.YtagacfcpepoaoaaGreatDoorQMem
import Derived.Test.YtagacfcpepoaoaaGreatDoorMAny
import Derived.Test.YtagacfcpepoaoaaGreatDoorMPut
namespace Go.Proofs.YtagacfcpepoaoaaGreatDoor
open Go.RowKit
set_option linter.unusedVariables false

variable {B g : Nat} {L : List Tk} {w w' : World} {R R' : Bx} {d : Nat} {o : Except Flt PS} {f : Flt}
/-- a number that was told stands for a node, and no node is lost -/
structure QTell (o : Except Flt PS) (u : Out) : Prop where
  kid : ∀ s', toO u = .ok s' → 0 ≤ kidO u ∧ kidO u < (s'.l.length : Int)
  grow : ∀ s', toO u = .ok s' → ∃ s, o = .ok s ∧ s.l.length ≤ s'.l.length
/-- no node is lost between two states -/
def Grow (o o' : Except Flt PS) : Prop := ∀ s', o' = .ok s' → ∃ s, o = .ok s ∧ s.l.length ≤ s'.l.length
theorem Grow.refl (o : Except Flt PS) : Grow o o := fun s' e => ⟨s', e, Nat.le_refl _⟩
theorem Grow.trans {o1 o2 : Except Flt PS} (h : Grow o o1) (k : Grow o1 o2) : Grow o o2 := fun s' e => by
  obtain ⟨s1, h1, h2⟩ := k s' e
  obtain ⟨s0, h3, h4⟩ := h s1 h1
  exact ⟨s0, h3, Nat.le_trans h4 h2⟩
theorem Grow.need (b : List UInt8) : Grow o (needO b o) := fun s' e => by
  cases o with
  | error f => cases e
  | ok s =>
    cases hb : s.is b with
    | true => rw [needO_yes hb] at e; injection e with e; subst e; exact ⟨s, rfl, Nat.le_refl _⟩
    | false => rw [needO_no hb] at e; cases e
theorem Grow.open_ (d a : Nat) : Grow o (openO d a o) := fun s' e => by
  cases o with
  | error f => cases e
  | ok s =>
    by_cases hd : 200 ≤ d
    · rw [openO_no hd] at e; cases e
    · rw [openO_yes hd] at e; injection e with e; subst e; exact ⟨s, rfl, Nat.le_refl _⟩
/-- what came -/
structure QCame (B g : Nat) (L : List Tk) (w : World) (R : Bx) (d : Nat) (u : Out) (en : Ending) (w' : World) (R' : Bx) : Prop where
  fr : Fr g w w' R R'
  en : en = .returned (.int .i64 (kidO u))
  any : QAny B g L w' R' d (toO u)
theorem q_err5 (H : QAny B g L w R d (.error f)) : ∃ e : Int, w.cell? ⟨g, 5, none⟩ = some (.int .i64 e) ∧ e ≠ 0 := by
  obtain ⟨p, l, h, dd, H, hf⟩ := H
  exact ⟨(f.1 : Int), H.c5, by omega⟩
theorem q_ok5 {s : PS} (H : QAny B g L w R d (.ok s)) : w.cell? ⟨g, 5, none⟩ = some (.int .i64 0) := by
  obtain ⟨p, l, H, _⟩ := H
  exact H.c5
set_option maxRecDepth 100000 in
set_option maxHeartbeats 4000000 in
theorem q_lay_bad (c0 c2 c3 c4 : Value) (ka : Option Addr) (M kc : Nat) (H : QBad B g L w R f) :
    Calls Tryz.prog 23 #[.pointer (some ⟨g, 0, none⟩), .agg #[c0, .slice ka M kc, c2, c3, c4]] w fun en w' => en = .returned (.int .i64 (-1)) ∧ Below w.heap.size w w' := by
  obtain ⟨W, hW⟩ : ∃ W, W = w.alloc (.cells #[c0, .slice ka M kc, c2, c3, c4] 59) := ⟨_, rfl⟩
  have HB : Hid (Below w.heap.size w W) := by rw [hW]; exact (Below.refl _ _).alloc (Nat.le_refl _) _
  obtain ⟨G, hG⟩ : ∃ G, G = w.heap.size := ⟨_, rfl⟩
  have HG : Hid (Held W G 59 #[c0, .slice ka M kc, c2, c3, c4]) := by rw [hW, hG]; exact Held.new _ _ _
  obtain ⟨e, c5, he⟩ := q_err5 (d := 0) (show QAny B g L W R 0 (.error f) from QAny.below (show QAny B g L w R 0 (.error f) from H) HB.out)
  have heb : (e == 0) = false := by simpa using he
  have hen : (e != 0) = true := by simpa using he
  have z1 : W.cell? ⟨G, 1, none⟩ = some (.slice ka M kc) := HG.out.at_ rfl
  clear H he
  go_enter Tryz.func23, Tryz.ntmps23
  rw [veil 1]
  go_wp2_with fail
  rw [← hW, ← hG]
  clear hW hG
  refine wp_veil ?_
  go_wp2_with fail
  go_loop [5, 6] (fun t5 t6 => t6 = .int .i64 0 ∧ t5 = .int .i64 1) (fun _ _ => 0)
  case atStart => exact ⟨rfl, rfl⟩
  case round =>
    obtain ⟨rfl, rfl⟩ := hrel
    by_cases h0 : 0 < M
    · have h0i : (0 : Int) < (M : Int) := by omega
      go_wp2_with fail
      go_ret
      exact ⟨rfl, HB.out⟩
    · have h0i : ¬ (0 : Int) < (M : Int) := by omega
      go_wp2_with fail
      go_ret
      exact ⟨rfl, HB.out⟩
theorem q_lay {B' : Nat} (K : Int) (v : Value) (acc : List Int) (n : Int) (S : ByteArray) (a : Nat) (H : QAny B g L w R d o) (hk : Now B' w v acc) (hB : B ≤ B') (hz : ∀ k, v.ownBlock = some k → R.Z k) (hv : ∀ s, o = .ok s → ∀ k ∈ acc, 0 ≤ k ∧ k < (s.l.length : Int)) (hl : Lim o L.length L.length) (hn : acc.length ≤ 100000) :
    Calls Tryz.prog 23 #[.pointer (some ⟨g, 0, none⟩), .agg #[.int .i64 K, v, .int .i64 n, .string S, .int .i64 (a : Int)]] w fun en w' => ∃ u R', Does o (fun s _ => some (lay (En K acc n S (a : Int)) s)) u ∧ QCame B g L w R d u en w' R' ∧ QTell o u ∧ (∀ k, R.Z k → v.ownBlock ≠ some k → R'.Z k) ∧ ∀ n m, Lim o n m → Lim (toO u) (n + 1) m := by
  obtain ⟨ka, kc, rfl⟩ := own_shape5 hk
  cases o with
  | ok s =>
    have H0 := H.less (fun k => R.Z k ∧ (Value.slice ka acc.length kc).ownBlock ≠ some k) (fun k hk => hk.1)
    obtain ⟨p, l, H1, hr, hls⟩ := (show QGood B g L w _ d s from H0)
    have hll : s.l.length = l.length := by rw [hls, List.length_map]
    have hh := H1.here
    have hlim := (hl s rfl).1
    have hoff : (Value.slice ka acc.length kc).ownBlock = none ∨ (Value.slice ka acc.length kc).ownBlock ≠ R.vh.ownBlock := by
      obtain ⟨p', l', H', _⟩ := (show QGood B g L w R d s from H)
      cases hb : (Value.slice ka acc.length kc).ownBlock with
      | none => exact .inl rfl
      | some b => exact .inr (fun e => (H'.zone b (hz b hb)).2.1 e.symm)
    refine (q_lay_rd ⟨K, ka, kc, acc, n, S, (a : Int)⟩ a H1 (own_base hk hB) hoff (fun k hk => hk.2) (fun k hk => by have := hv s rfl k hk; rw [hll] at this; rw [H1.len]; exact this) (by rw [hr, List.length_drop] at hlim; omega) hn rfl).mono ?_
    rintro en w' (⟨h1, h2, R', y, hzz, hy, hR, hF⟩ | ⟨h1, h2, hB, hF⟩)
    · have hlay : lay (En K acc n S (a : Int)) s = .ok ([(s.l.length : Int)], ⟨s.r, s.l ++ [En K acc n S (a : Int)], s.h ++ [high s.h acc]⟩) := if_neg (by show ¬ 200 < high s.h acc; have : high s.h acc ≤ 200 := h1; omega)
      refine ⟨_, R', Ev.const, ⟨⟨hF.os, hF.tape, hF.output, hF.size, hF.block, hF.vn, hF.vh⟩, ?_, ?_⟩, ⟨fun s' e => ?_, fun s' e => ?_⟩, fun k h3 h4 => by rw [hzz]; exact ⟨h3, h4⟩, fun n' m h3 => ?_⟩
      · rw [hlay, h2]; show _ = Ending.returned (.int .i64 ((s.l.length : Nat) : Int)); rw [hll]
      · rw [hlay]
        refine ⟨p, l ++ [y], hR, hr, ?_⟩
        show s.l ++ [_] = _
        rw [List.map_append, hls, ← show bare y = En K acc n S (a : Int) from hy]
        rfl
      · rw [hlay] at e ⊢
        injection e with e
        subst e
        show (0 : Int) ≤ ((s.l.length : Nat) : Int) ∧ ((s.l.length : Nat) : Int) < (((s.l ++ [_]).length : Nat) : Int)
        rw [List.length_append, List.length_singleton]
        exact ⟨by omega, by omega⟩
      · rw [hlay] at e
        injection e with e
        subst e
        exact ⟨s, rfl, by show s.l.length ≤ (s.l ++ [_]).length; rw [List.length_append]; omega⟩
      · rw [hlay]
        intro s' e
        injection e with e
        subst e
        have h5 := h3 s rfl
        exact ⟨by show (s.l ++ [_]).length + s.r.length ≤ _; rw [List.length_append, List.length_singleton]; omega, h5.2⟩
    · have hlay : lay (En K acc n S (a : Int)) s = .error (4, a) := (if_pos (by show 200 < high s.h acc; exact h1)).trans rfl
      refine ⟨_, _, Ev.const, ⟨⟨hF.os, hF.tape, hF.output, hF.size, hF.block, hF.vn, hF.vh⟩, ?_, ?_⟩, ⟨fun s' e => ?_, fun s' e => ?_⟩, fun k h3 h4 => ⟨h3, h4⟩, fun n' m h3 => ?_⟩
      · rw [hlay]; exact h2
      · rw [hlay]; exact hB
      · rw [hlay] at e; cases e
      · rw [hlay] at e; cases e
      · rw [hlay]; exact Lim.err
  | error f =>
    refine (q_lay_bad _ _ _ _ _ _ _ H).mono ?_
    rintro en w' ⟨rfl, hb⟩
    exact ⟨.error f, R, rfl, ⟨Fr.of_below R hb, rfl, QAny.below H hb⟩, ⟨(fun s' e => by cases e), (fun s' e => by cases e)⟩, fun k h3 _ => h3, fun n m _ => Lim.err⟩
set_option maxRecDepth 100000 in
theorem q_opens_bad (a : Nat) (H : QBad B g L w R f) :
    Calls Tryz.prog 51 #[.pointer (some ⟨g, 0, none⟩), .int .i64 (a : Int)] w fun en w' => (∃ v, en = .returned v) ∧ QBad B g L w' R f ∧ Fr g w w' R R := by
  obtain ⟨p, l, h, dd, H, hf⟩ := H
  have c2 := H.c2
  have f2 := H.box.frozen 2
  obtain ⟨V, hV⟩ : ∃ V, V = wrap64 (dd + 1) := ⟨_, rfl⟩
  obtain ⟨W, hW⟩ : ∃ W, W = w.setCell ⟨g, 2, none⟩ (.int .i64 V) := ⟨_, rfl⟩
  have hst := H.store (i := 2) (u := .int .i64 V) (e' := (f.1 : Int)) (q' := (f.2 : Int)) (d' := V) (p' := p) rfl H.here H.few
  rw [← hW] at hst
  have HG : Hid (QBad B g L W R f) := ⟨p, l, h, V, hst, hf⟩
  have HF : Hid (Fr g w W R R) := by rw [hW]; exact Fr.store (B := B) (L := L) 2 _
  have d2 := hst.c2
  clear H hst hf
  go_enter Tryz.func51, Tryz.ntmps51
  rw [veil 1]
  go_wp2_with fail
  rw [← hV, ← hW]
  clear hV hW c2 f2
  refine wp_veil ?_
  by_cases h2 : 200 < V
  · go_wp2_with fail
    refine (q_fail 4 a (by decide) (show QAny B g L W R 0 (.error f) from HG.out)).mono ?_
    rintro en w3 ⟨⟨v, rfl⟩, ha, hf⟩
    have HA3 := hidden ha
    have HF3 := hidden (HF.out.trans hf)
    clear ha hf
    go_wp2_with fail
    go_end0
    exact ⟨⟨_, rfl⟩, HA3.out, HF3.out⟩
  · go_wp2_with fail
    go_end0
    exact ⟨⟨_, rfl⟩, HG.out, HF.out⟩
theorem q_opens (a : Nat) (H : QAny B g L w R d o) (hd : ∀ s, o = .ok s → d ≤ 1000) :
    Calls Tryz.prog 51 #[.pointer (some ⟨g, 0, none⟩), .int .i64 (a : Int)] w fun en w' => (∃ v, en = .returned v) ∧ QAny B g L w' R (d + 1) (openO d a o) ∧ Fr g w w' R R := by
  cases o with
  | ok s => exact q_opens_ok a H (hd s rfl)
  | error f => exact q_opens_bad a H
/-- a level is closed: a store -/
theorem QAny.close (H : QAny B g L w R (d + 1) o) (hd : d ≤ 1000) : ∃ dd V : Int, w.cell? ⟨g, 2, none⟩ = some (.int .i64 dd) ∧ w.frozen? ⟨g, 2, none⟩ = false ∧ V = wrap64 (dd - 1) ∧ QAny B g L (w.setCell ⟨g, 2, none⟩ (.int .i64 V)) R d o ∧ Fr g w (w.setCell ⟨g, 2, none⟩ (.int .i64 V)) R R := by
  cases o with
  | ok s =>
    obtain ⟨p, l, H, hr, hl⟩ := H
    have hV : wrap64 (((d + 1 : Nat) : Int) - 1) = (d : Int) := by rw [Go.IntWalk.wrap64_in _ (by omega)]; omega
    refine ⟨((d + 1 : Nat) : Int), (d : Int), H.c2, H.box.frozen 2, hV.symm, ⟨p, l, ?_, hr, hl⟩, Fr.store (B := B) (L := L) 2 _⟩
    exact H.store (i := 2) (u := .int .i64 (d : Int)) (d' := (d : Int)) (e' := 0) (q' := 0) (p' := p) rfl H.here H.few
  | error f =>
    obtain ⟨p, l, h, dd, H, hf⟩ := H
    refine ⟨dd, wrap64 (dd - 1), H.c2, H.box.frozen 2, rfl, ⟨p, l, h, wrap64 (dd - 1), ?_, hf⟩, Fr.store (B := B) (L := L) 2 _⟩
    exact H.store (i := 2) (u := .int .i64 (wrap64 (dd - 1))) (d' := wrap64 (dd - 1)) (e' := (f.1 : Int)) (q' := (f.2 : Int)) (p' := p) rfl H.here H.few
end Go.Proofs.YtagacfcpepoaoaaGreatDoor

namespace Go.Proofs.YtagacfcpepoaoaaGreatDoor
open Go.RowKit
set_option linter.unusedVariables false

variable {B g : Nat} {L : List Tk} {w0 w w' : World} {R0 R R' : Bx} {d d' : Nat} {o o' : Except Flt PS} {v : Value} {acc : List Int}
/-- from one world to another: no block that is none of the reader's becomes one -/
structure QRun (B g : Nat) (L : List Tk) (w0 : World) (R0 : Bx) (d : Nat) (w : World) (R : Bx) (o : Except Flt PS) : Prop where
  any : QAny B g L w R d o
  fr : Fr g w0 w R0 R
  z : ∀ k, R0.Z k → R.Z k
theorem QRun.start (H : QAny B g L w R d o) : QRun B g L w R d w R o := ⟨H, Fr.of_below R (Below.refl _ _), fun _ h => h⟩
theorem QRun.step (H : QRun B g L w0 R0 d w R o) (hA : QAny B g L w' R' d' o') (F : Fr g w w' R R') (hz : ∀ k, R.Z k → R'.Z k) : QRun B g L w0 R0 d' w' R' o' := ⟨hA, H.fr.trans F, fun k h => hz k (H.z k h)⟩
theorem QRun.then_ (H : QRun B g L w0 R0 d w R o) (K : QRun B g L w R d' w' R' o') : QRun B g L w0 R0 d' w' R' o' := H.step K.any K.fr K.z
theorem QRun.below (H : QRun B g L w0 R0 d w R o) (hb : Below w.heap.size w w') : QRun B g L w0 R0 d w' R o := H.step (H.any.below hb) (Fr.of_below R hb) (fun _ h => h)
/-- a number that was told -/
structure QGot (B g : Nat) (L : List Tk) (w0 : World) (R0 : Bx) (d : Nat) (o : Except Flt PS) (u : Out) (en : Ending) (w' : World) (R' : Bx) : Prop where
  run : QRun B g L w0 R0 d w' R' (toO u)
  en : en = .returned (.int .i64 (kidO u))
  tell : QTell o u
/-- what a call of the reader tells and leaves -/
def QDone (B g : Nat) (L : List Tk) (w : World) (R : Bx) (d : Nat) (o : Except Flt PS) (F : PS → Nat → Option Out) (en : Ending) (w' : World) : Prop := ∃ u R', Does o F u ∧ QGot B g L w R d o u en w' R'
theorem QRun.got (H : QRun B g L w0 R0 d w R o) {u : Out} {en : Ending} (K : QGot B g L w R d' o u en w' R') : QGot B g L w0 R0 d' o u en w' R' := ⟨H.then_ K.run, K.en, K.tell⟩
theorem QTell.grow' {u : Out} (h : QTell o u) : Grow o (toO u) := h.grow
theorem QTell.back {u : Out} (h : Grow o o') (k : QTell o' u) : QTell o u := ⟨k.kid, h.trans k.grow⟩
theorem QTell.err {f : Flt} : QTell o (.error f) := ⟨fun s' e => (by cases e), fun s' e => (by cases e)⟩
theorem Grow.err {f : Flt} : Grow o (.error f) := fun s' e => by cases e
theorem Grow.next {s : PS} : Grow (.ok s) (.ok s.next) := fun s' e => by injection e with e; subst e; exact ⟨s, rfl, Nat.le_refl _⟩
theorem Grow.fail (x a : Nat) : Grow o (failO x a o) := fun s' e => by cases o <;> cases e
theorem Grow.name : Grow o (nameO o) := fun s' e => by
  cases o with
  | error f => cases e
  | ok s =>
    by_cases hb : s.tok.kind = 1
    · rw [nameO_yes hb] at e; injection e with e; subst e; exact ⟨s, rfl, Nat.le_refl _⟩
    · rw [nameO_no hb] at e; cases e
theorem Grow.kind : Grow o (kindO o) := fun s' e => by
  cases o with
  | error f => cases e
  | ok s =>
    by_cases hb : kindAt s.tok = 0
    · rw [kindO_no hb] at e; cases e
    · rw [kindO_yes hb] at e; injection e with e; subst e; exact ⟨s, rfl, Nat.le_refl _⟩
/-- the number of a node that was laid is a node's, also later -/
def KidIn (o : Except Flt PS) (k : Int) : Prop := ∀ s, o = .ok s → 0 ≤ k ∧ k < (s.l.length : Int)
theorem KidIn.grow {k : Int} (h : KidIn o k) (hg : Grow o o') : KidIn o' k := fun s' e => by
  obtain ⟨s, h1, h2⟩ := hg s' e
  have := h s h1
  exact ⟨this.1, by omega⟩
theorem QTell.kidIn {u : Out} (h : QTell o u) : KidIn (toO u) (kidO u) := h.kid
theorem QAny.old (H : QAny B g L w R d o) : B ≤ w.heap.size := by
  obtain ⟨p, l, hh, dd, e, q, H⟩ := H.core
  have h1 := H.old
  have h2 := H.box.lt
  omega
theorem QAny.zlt (H : QAny B g L w R d o) {k : Nat} (hk : R.Z k) : k < w.heap.size := by
  obtain ⟨p, l, hh, dd, e, q, H⟩ := H.core
  exact (H.zone k hk).1
/-- Lay over a list that was just made -/
theorem lay_new (K : Int) (acc : List Int) (n : Int) (S : ByteArray) (a : Nat) (cs : Array Value) (hcs : cs = (acc.map (Value.int .i64)).toArray) (m : Nat) (hm : m = acc.length) (H : QAny B g L w R d o) (hv : ∀ k ∈ acc, KidIn o k) (hl : Lim o L.length L.length) (hn : acc.length ≤ 100000) :
    Calls Tryz.prog 23 #[.pointer (some ⟨g, 0, none⟩), .agg #[.int .i64 K, .slice (some ⟨w.heap.size, 0, none⟩) m m, .int .i64 n, .string S, .int .i64 (a : Int)]] (w.alloc (.cells cs 3)) fun en w' => ∃ u R', Does o (fun s _ => some (lay (En K acc n S (a : Int)) s)) u ∧ QGot B g L w R d o u en w' R' ∧ ∀ n m, Lim o n m → Lim (toO u) (n + 1) m := by
  have hW1 : Below w.heap.size w (w.alloc (.cells cs 3)) := (Below.refl _ _).alloc (Nat.le_refl _) _
  have H1 := H.widen hW1 (fun k => R.Z k ∨ k = w.heap.size) (fun k hk => by
    rcases hk with hk | hk
    · exact .inl hk
    · exact .inr ⟨by omega, by rw [hk]; simp⟩)
  refine (q_lay (B' := w.heap.size) K _ acc n S a H1 (now_new w acc cs hcs hn m hm) H.old (fun k hk => ?_) (fun s hs k hk => hv k hk s hs) hl hn).mono ?_
  · have e : w.heap.size = k := by simpa [Value.ownBlock] using hk
    exact .inr e.symm
  · rintro en w' ⟨u, R', h1, h2, h3, h4, h5⟩
    refine ⟨u, R', h1, ⟨⟨h2.any, (Fr.of_below R hW1).trans ⟨h2.fr.os, h2.fr.tape, h2.fr.output, h2.fr.size, h2.fr.block, h2.fr.vn, h2.fr.vh⟩, fun k hk => h4 k (.inl hk) (fun e => ?_)⟩, h2.en, h3⟩, h5⟩
    have e : w.heap.size = k := by simpa [Value.ownBlock] using e
    have := H.zlt hk
    omega
/-- Lay over none -/
theorem lay_nil (K : Int) (n : Int) (S : ByteArray) (a : Nat) (H : QAny B g L w R d o) (hl : Lim o L.length L.length) :
    Calls Tryz.prog 23 #[.pointer (some ⟨g, 0, none⟩), .agg #[.int .i64 K, .slice none 0 0, .int .i64 n, .string S, .int .i64 (a : Int)]] w fun en w' => ∃ u R', Does o (fun s _ => some (lay (En K [] n S (a : Int)) s)) u ∧ QGot B g L w R d o u en w' R' ∧ ∀ n m, Lim o n m → Lim (toO u) (n + 1) m := by
  refine (q_lay (B' := w.heap.size) K (.slice none 0 0) [] n S a H ⟨rfl, .inl ⟨rfl, rfl⟩⟩ H.old (fun k hk => by simp [Value.ownBlock] at hk) (fun s hs k hk => absurd hk (List.not_mem_nil)) hl (by simp)).mono ?_
  rintro en w' ⟨u, R', h1, h2, h3, h4, h5⟩
  exact ⟨u, R', h1, ⟨⟨h2.any, h2.fr, fun k hk => h4 k hk (fun e => by simp [Value.ownBlock] at e)⟩, h2.en, h3⟩, h5⟩
/-- .. with a list that is being built -/
structure QPre (B g : Nat) (L : List Tk) (w0 : World) (R0 : Bx) (d : Nat) (w : World) (R : Bx) (o : Except Flt PS) (v : Value) (acc : List Int) : Prop extends QRun B g L w0 R0 d w R o where
  zv : ∀ k, v.ownBlock = some k → R.Z k
  now : Now w0.heap.size w v acc
  kids : ∀ k ∈ acc, KidIn o k
  base : xTop ≤ w0.heap.size
  z00 : ∀ k, R0.Z k → k < w0.heap.size
theorem QRun.pre (H : QRun B g L w0 R0 d w R o) (H0 : QAny B g L w0 R0 d' o') : QPre B g L w0 R0 d w R o (.slice none 0 0) [] :=
  ⟨H, fun k hk => by simp [Value.ownBlock] at hk, ⟨rfl, .inl ⟨rfl, rfl⟩⟩, fun k hk => absurd hk (List.not_mem_nil), H0.tabs.size, fun k hk => H0.zlt hk⟩
theorem QPre.step (H : QPre B g L w0 R0 d w R o v acc) (hA : QAny B g L w' R' d' o') (F : Fr g w w' R R') (hz : ∀ k, R.Z k → R'.Z k) (hg : Grow o o') : QPre B g L w0 R0 d' w' R' o' v acc :=
  ⟨H.toQRun.step hA F hz, fun k hk => hz k (H.zv k hk), QAny.now_keep H.now H.any H.zv F, fun k hk => (H.kids k hk).grow hg, H.base, H.z00⟩
theorem QPre.then_ (H : QPre B g L w0 R0 d w R o v acc) (K : QRun B g L w R d' w' R' o') (hg : Grow o o') : QPre B g L w0 R0 d' w' R' o' v acc := H.step K.any K.fr K.z hg
theorem QPre.below (H : QPre B g L w0 R0 d w R o v acc) (hb : Below w.heap.size w w') : QPre B g L w0 R0 d w' R o v acc := H.step (H.any.below hb) (Fr.of_below R hb) (fun _ h => h) (Grow.refl o)
theorem QPre.push (H : QPre B g L w0 R0 d w R o v acc) {w3 : World} {v3 : Value} {k : Int} {cs : Array Value} (hk : KidIn o k) (h3 : Now w0.heap.size w3 v3 (acc ++ [k])) (hg : (w.alloc (.cells cs 3)).grownBy w3 v.ownBlock) (hw : ∀ j, v3.ownBlock = some j → v.ownBlock = some j ∨ j = (w.alloc (.cells cs 3)).heap.size) :
    ∃ R3, QPre B g L w0 R0 d w3 R3 o v3 (acc ++ [k]) := by
  have hB : Below w.heap.size w (w.alloc (.cells cs 3)) := (Below.refl _ _).alloc (Nat.le_refl _) _
  have hv := own_below H.now hB
  refine ⟨{ R with Z := fun k => R.Z k ∨ v3.ownBlock = some k }, ⟨⟨H.any.wider hB hv H.base H.zv hg _ (fun k hk => ?_), fr_foreign H.fr hB hv hg _, fun k hk => .inl (H.z k hk)⟩, fun k hk => .inr hk, h3, fun j hj => ?_, H.base, H.z00⟩⟩
  · rcases hk with hk | hk
    · exact .inl hk
    · rcases hw k hk with h1 | h1
      · exact .inl (H.zv k h1)
      · exact .inr ⟨by rw [h1]; simp, (World.ownsRow.lt h3 k hk).2⟩
  · rcases List.mem_append.1 hj with hj | hj
    · exact H.kids j hj
    · rw [List.mem_singleton.1 hj]; exact hk
/-- Lay over the list that was built -/
theorem QPre.lay (K : Int) (n : Int) (S : ByteArray) (a : Nat) (H : QPre B g L w0 R0 d w R o v acc) (hB : B ≤ w0.heap.size) (hl : Lim o L.length L.length) (hn : acc.length ≤ 100000) :
    Calls Tryz.prog 23 #[.pointer (some ⟨g, 0, none⟩), .agg #[.int .i64 K, v, .int .i64 n, .string S, .int .i64 (a : Int)]] w fun en w' => ∃ u R', Does o (fun s _ => some (Go.Proofs.YtagacfcpepoaoaaGreatDoor.lay (En K acc n S (a : Int)) s)) u ∧ QGot B g L w0 R0 d o u en w' R' ∧ ∀ n m, Lim o n m → Lim (toO u) (n + 1) m := by
  refine (q_lay (B' := w0.heap.size) K v acc n S a H.any H.now hB H.zv (fun s hs k hk => H.kids k hk s hs) hl hn).mono ?_
  rintro en w' ⟨u, R', h1, h2, h3, h4, h5⟩
  refine ⟨u, R', h1, ⟨⟨h2.any, H.fr.trans h2.fr, fun k hk => h4 k (H.z k hk) (fun e => ?_)⟩, h2.en, h3⟩, h5⟩
  have h6 := (World.ownsRow.lt H.now k e).1
  have := H.z00 k hk
  omega
/-- reading an expression, or a part of one -/
theorem Does.left_rd {m : Md} {u : Out} (h : Does o (fun s n => rd n m d s) u) (n k : Nat) (hl : Lim o n k) : Lim (toO u) n k := by
  cases o with
  | error f => rw [show u = _ from h]; exact Lim.err
  | ok s =>
    match u, h with
    | .error f, _ => exact Lim.err
    | .ok (p, s1), h =>
      intro s' e
      injection e with e
      subst e
      obtain ⟨n0, hn⟩ := h
      have h1 : Reads m d s (.ok (p, s1)) := ⟨n0, hn n0 (Nat.le_refl _)⟩
      have h2 := hl s rfl
      have h3 := h1.slack
      exact ⟨by omega, by omega⟩
theorem Does.to_reads {m : Md} {s : PS} {u : Out} (h : Does (.ok s) (fun s n => rd n m d s) u) : Reads m d s u := by
  obtain ⟨n, hn⟩ := h
  exact ⟨n, hn n (Nat.le_refl _)⟩
theorem Does.congr {F G : PS → Nat → Option Out} {u : Out} (h : Does o F u) (e : ∀ s, o = .ok s → ∀ n, G s n = F s n) : Does o G u := by
  cases o with
  | error f => exact h
  | ok s => exact Ev.congr (e s rfl) h
end Go.Proofs.YtagacfcpepoaoaaGreatDoor
