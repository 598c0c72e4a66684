/- ParseAny, ParseRun, in one text. -/
import Derived.Test.YtagacfcpepoaoaaGreatDoorMTree
import Derived.Test.YtagacfcpepoaoaaGreatDoorMShape
namespace Go.Proofs.YtagacfcpepoaoaaGreatDoor
open Go.RowKit
set_option linter.unusedVariables false

variable {B g : Nat} {L : List Tk} {w w' : World} {R R' : Bx} {d : Nat} {o o' : Except Flt PS}
/-- a reader in memory, with what is left, or what was wrong -/
def Any (B g : Nat) (L : List Tk) (w : World) (R : Bx) (d : Nat) : Except Flt PS → Prop
  | .ok s => Good B g L w R d s
  | .error f => Bad B g L w R d f
def toO : Out → Except Flt PS
  | .ok (_, s) => .ok s
  | .error f => .error f
def kidO : Out → Int
  | .ok (l, _) => hd1 l
  | .error _ => -1
/-- what is told of what is left, with enough fuel; what was wrong stays -/
def Does (o : Except Flt PS) (F : PS → Nat → Option Out) (v : Out) : Prop := match o with
  | .ok s => Ev (F s) v
  | .error f => v = .error f
/-- how much is left at most -/
def Lim (o : Except Flt PS) (n m : Nat) : Prop := ∀ s, o = .ok s → s.l.length + s.r.length ≤ n ∧ s.r.length ≤ m
theorem Lim.mono {n m n' m' : Nat} (h : Lim o n m) (h1 : n ≤ n') (h2 : m ≤ m') : Lim o n' m' := fun s e => ⟨by have := (h s e).1; omega, by have := (h s e).2; omega⟩
theorem Lim.self {n m : Nat} (h : Lim o n m) : Lim o n n := fun s e => ⟨(h s e).1, by have := (h s e).1; omega⟩
theorem Lim.err {f : Flt} {n m : Nat} : Lim (.error f) n m := fun s e => by cases e
theorem Any.below (H : Any B g L w R d o) (hb : Below w.heap.size w w') : Any B g L w' R d o := by
  cases o with
  | ok s => exact Good.below H hb
  | error f => exact Bad.below H hb
theorem Any.core (H : Any B g L w R d o) : ∃ p l h e q, Rd B g L w R p (d : Int) l h e q := by
  cases o with
  | ok s => obtain ⟨p, l, h, _⟩ := H; exact ⟨_, _, _, _, _, h⟩
  | error f => obtain ⟨p, l, h, H, _⟩ := H; exact ⟨_, _, _, _, _, H⟩
theorem Any.held {G : Nat} {t : TypeId} {cs : Array Value} (H : Any B g L w R d o) (F : Fr g w w' R R') (h : Held w G t cs) (h1 : t ≠ 74) (h2 : t ≠ 3) (hv : R.vn.ownBlock ≠ some G) : Held w' G t cs := by
  obtain ⟨p, l, hh, e, q, H⟩ := H.core
  refine h.block (F.block G h.lt ?_ hv (own_ne H.hts h (fun e => h2 e.symm)))
  intro e
  subst e
  have h4 : w.heap[G]? = _ := H.box
  have h5 : w.heap[G]? = _ := h
  rw [h4] at h5
  injection h5 with h6
  injection h6 with _ h7
  exact h1 h7.symm
theorem Any.vn_ne {G : Nat} {t : TypeId} {cs : Array Value} (H : Any B g L w R d o) (h : Held w G t cs) (h2 : t ≠ 59) : R.vn.ownBlock ≠ some G := by
  obtain ⟨p, l, hh, e, q, H⟩ := H.core
  exact own_ne H.own h (fun e => h2 e.symm)
theorem Any.tabs (H : Any B g L w R d o) : XTabs w := by
  obtain ⟨p, l, hh, e, q, H⟩ := H.core
  exact H.tabs
theorem Any.below_base (H : Any B g L w R d o) (F : Fr g w w' R R') : Below B w w' := by
  obtain ⟨p, l, hh, e, q, H⟩ := H.core
  exact H.toCore.below_base F
theorem Any.low (H : Any B g L w R d o) (F : Fr g w w' R R') {k : Nat} (hk : k < xTop) : w'.heap[k]? = w.heap[k]? := by
  obtain ⟨p, l, hh, e, q, H⟩ := H.core
  exact (H.toCore.below_base F).block k (by have := H.base; omega)
theorem Any.many (H : Any B g L w R d o) : L.length ≤ 100000 := by
  obtain ⟨p, l, hh, e, q, H⟩ := H.core
  exact H.many
theorem Any.less (H : Any B g L w R d o) (Z' : Nat → Prop) (hz : ∀ k, Z' k → R.Z k) : Any B g L w { R with Z := Z' } d o := by
  cases o with
  | ok s => exact Good.less H Z' hz
  | error f => exact Bad.less H Z' hz
theorem Any.wider {B' n : Nat} {W1 : World} {v : Value} {xs : List Value} (H : Any B g L w R d o) (hW1 : Below w.heap.size w W1) (hv : W1.ownsRow B' 3 1 v n xs) (hB' : xTop ≤ B') (hz : ∀ k, v.ownBlock = some k → R.Z k) (hg : W1.grownBy w' v.ownBlock) (Z' : Nat → Prop) (hz' : ∀ k, Z' k → R.Z k ∨ (w.heap.size ≤ k ∧ k < w'.heap.size)) : Any B g L w' { R with Z := Z' } d o := by
  cases o with
  | ok s => exact Good.wider H hW1 hv hB' hz hg Z' hz'
  | error f => exact Bad.wider H hW1 hv hB' hz hg Z' hz'
theorem grown_refl (w : World) (r : Option Nat) : w.grownBy w r := ⟨rfl, rfl, rfl, Nat.le_refl _, fun _ _ _ => rfl⟩
/-- .. over more blocks that are none of the reader's -/
theorem Any.widen (H : Any B g L w R d o) (hW1 : Below w.heap.size w w') (Z' : Nat → Prop) (hz' : ∀ k, Z' k → R.Z k ∨ (w.heap.size ≤ k ∧ k < w'.heap.size)) : Any B g L w' { R with Z := Z' } d o :=
  H.wider (B' := xTop) (n := 0) (xs := []) (v := .slice none 0 0) hW1 ⟨rfl, .inl ⟨rfl, rfl⟩⟩ (Nat.le_refl _) (fun k hk => by simp [Value.ownBlock] at hk) (grown_refl _ _) Z' hz'
/-- a block of nodes that is none of the reader's is written -/
theorem Rd.other {N p : Nat} {d e q : Int} {l : List Nd} {h : List Nat} {cs : Array Value} (H : Rd B g L w R p d l h e q) (hN : Held w N 59 cs) (hne : R.vn.ownBlock ≠ some N) (hx : xTop ≤ N) (hg : w.grownBy w' (some N)) : Rd B g L w' R p d l h e q := by
  obtain ⟨cs', fz, hty⟩ := H.ty
  have hgN : g ≠ N := by
    intro e
    subst e
    have h4 : w.heap[g]? = _ := H.box
    have h5 : w.heap[g]? = _ := hN
    rw [h4] at h5
    injection h5 with h6
    injection h6 with _ h7
    exact absurd h7 (by decide)
  have htN : R.tb ≠ N := by
    intro e
    rw [e] at hty
    have h5 : w.heap[N]? = _ := hN
    rw [hty] at h5
    injection h5 with h6
    injection h6 with _ h7
    exact absurd h7 (by decide)
  have K : ∀ k, k ≠ N → k < w.heap.size → w'.heap[k]? = w.heap[k]? := fun k hk hs => hg.block k hs (fun e => hk (by injection e))
  have htb := K R.tb htN H.tlt
  refine ⟨⟨H.box.block (K g hgN H.box.lt), H.toks.block htb, Nat.lt_of_lt_of_le H.tlt hg.size, H.told, ⟨cs', fz, htb.trans hty⟩, World.ownsRow.kept H.own hg (.inr hne), World.ownsRow.kept H.hts hg (.inr (own_ne H.hts hN (by decide))), fun x hx => World.ownsRow.kept (H.kids x hx) hg (.inr (own_ne (H.kids x hx) hN (by decide))), H.off, H.old, H.fin, H.many,
    H.tabs.keep (fun k hk => K k (by omega) (by have := H.tabs.size; omega)), H.base, fun k hk => ⟨Nat.lt_of_lt_of_le (H.zone k hk).1 hg.size, (H.zone k hk).2⟩⟩, H.len, H.here, H.few, H.low⟩
theorem Any.other {N : Nat} {cs : Array Value} (H : Any B g L w R d o) (hN : Held w N 59 cs) (hne : R.vn.ownBlock ≠ some N) (hx : xTop ≤ N) (hg : w.grownBy w' (some N)) : Any B g L w' R d o := by
  cases o with
  | ok s => obtain ⟨p, l, h, r⟩ := H; exact ⟨p, l, h.other hN hne hx hg, r⟩
  | error f => obtain ⟨p, l, h, H, r⟩ := H; exact ⟨p, l, h, H.other hN hne hx hg, r⟩
theorem Fr.other {N : Nat} {w0 : World} {R0 : Bx} (F : Fr g w0 w R0 R) (hN : w0.heap.size ≤ N) (hg : w.grownBy w' (some N)) : Fr g w0 w' R0 R := by
  refine ⟨hg.os.trans F.os, hg.tape.trans F.tape, hg.output.trans F.output, Nat.le_trans F.size hg.size, ?_, F.vn, F.vh⟩
  intro k hk h1 h2 h3
  rw [hg.block k (by have := F.size; omega) (fun e => by injection e with e; omega), F.block k hk h1 h2 h3]
/-- small steps -/
def failO (x a : Nat) : Except Flt PS → Except Flt PS
  | .ok _ => .error (x, a)
  | .error f => .error f
def openO (d a : Nat) : Except Flt PS → Except Flt PS
  | .ok s => if 200 ≤ d then .error (4, a) else .ok s
  | .error f => .error f
def needO (b : List UInt8) : Except Flt PS → Except Flt PS
  | .ok s => if s.is b then .ok s.next else .error (8, s.tok.place)
  | .error f => .error f
def nameO : Except Flt PS → Except Flt PS
  | .ok s => if s.tok.kind = 1 then .ok s.next else .error (8, s.tok.place)
  | .error f => .error f
def nmO : Except Flt PS → ByteArray
  | .ok s => if s.tok.kind = 1 then ⟨s.tok.text.toArray⟩ else ⟨#[]⟩
  | .error f => ⟨#[]⟩
theorem needO_yes {b : List UInt8} {s : PS} (h : s.is b = true) : needO b (.ok s) = .ok s.next := if_pos h
theorem needO_no {b : List UInt8} {s : PS} (h : s.is b = false) : needO b (.ok s) = .error (8, s.tok.place) := if_neg (by rw [h]; decide)
theorem nameO_yes {s : PS} (h : s.tok.kind = 1) : nameO (.ok s) = .ok s.next := if_pos h
theorem nameO_no {s : PS} (h : s.tok.kind ≠ 1) : nameO (.ok s) = .error (8, s.tok.place) := if_neg h
theorem nmO_yes {s : PS} (h : s.tok.kind = 1) : nmO (.ok s) = ⟨s.tok.text.toArray⟩ := if_pos h
theorem nmO_no {s : PS} (h : s.tok.kind ≠ 1) : nmO (.ok s) = ⟨#[]⟩ := if_neg h
theorem openO_no {d a : Nat} {s : PS} (h : 200 ≤ d) : openO d a (.ok s) = .error (4, a) := if_pos h
theorem openO_yes {d a : Nat} {s : PS} (h : ¬ 200 ≤ d) : openO d a (.ok s) = .ok s := if_neg h
theorem Does.need {b : List UInt8} {G : PS → Nat → Option Out} {v : Out} (h : Does (needO b o) G v) : Does o (fun s n => need b s (fun s1 => G s1 n)) v := by
  cases o with
  | error f => exact h
  | ok s =>
    cases hb : s.is b with
    | true => rw [needO_yes hb] at h; exact Ev.need (f := fun n s1 => G s1 n) hb h
    | false => rw [needO_no hb] at h; rw [show v = _ from h]; exact Ev.need_no (f := fun n s1 => G s1 n) hb
theorem Lim.need {b : List UInt8} {n m : Nat} (h : Lim o (n + 1) (m + 1)) : Lim (needO b o) n m := by
  cases o with
  | error f => exact Lim.err
  | ok s =>
    cases hb : s.is b with
    | true =>
      rw [needO_yes hb]
      intro s' e
      injection e with e
      subst e
      have h1 := h s rfl
      have h2 := is_some hb
      have h3 : s.next.l = s.l := rfl
      rw [h3]
      exact ⟨by omega, by omega⟩
    | false => rw [needO_no hb]; exact Lim.err
theorem Does.name {a : Nat} {G : ByteArray → Nat → PS → Nat → Option Out} {v : Out} (ha : ∀ s, o = .ok s → a = s.tok.place) (h : Does (nameO o) (G (nmO o) a) v) : Does o (fun s n => needName s (fun x y s1 => G x y s1 n)) v := by
  cases o with
  | error f => exact h
  | ok s =>
    have ha := ha s rfl
    subst ha
    by_cases hb : s.tok.kind = 1
    · rw [nameO_yes hb, nmO_yes hb] at h; exact Ev.name (f := fun n x y s1 => G x y s1 n) hb h
    · rw [nameO_no hb] at h; rw [show v = _ from h]; exact Ev.name_no (f := fun n x y s1 => G x y s1 n) hb
theorem Lim.name {n m : Nat} (h : Lim o (n + 1) (m + 1)) : Lim (nameO o) n m := by
  cases o with
  | error f => exact Lim.err
  | ok s =>
    by_cases hb : s.tok.kind = 1
    · rw [nameO_yes hb]
      intro s' e
      injection e with e
      subst e
      have h1 := h s rfl
      have h2 := kind_some (s := s) (by omega)
      have h3 : s.next.l = s.l := rfl
      rw [h3]
      exact ⟨by omega, by omega⟩
    · rw [nameO_no hb]; exact Lim.err
theorem Does.go {F : PS → Nat → Option Out} {G : Int → PS → Nat → Option Out} {v1 v : Out} (h1 : Does o F v1) (h : Does (toO v1) (G (kidO v1)) v) : Does o (fun s n => Out.go (F s n) (fun p s1 => G (hd1 p) s1 n)) v := by
  cases o with
  | error f => rw [show v1 = _ from h1] at h; exact h
  | ok s =>
    match v1, h1, h with
    | .error f, h1, h => rw [show v = _ from h]; exact Ev.go_err (f := fun n p s1 => G (hd1 p) s1 n) h1
    | .ok (p, s1), h1, h => exact Ev.go (f := fun n p s1 => G (hd1 p) s1 n) h1 h
theorem Does.go' {F : PS → Nat → Option Out} {G : List Int → PS → Nat → Option Out} {v1 v : Out} {q : List Int} (h1 : Does o F v1) (hq : ∀ p s, v1 = .ok (p, s) → q = p) (h : Does (toO v1) (G q) v) : Does o (fun s n => Out.go (F s n) (fun p s1 => G p s1 n)) v := by
  cases o with
  | error f => rw [show v1 = _ from h1] at h; exact h
  | ok s =>
    match v1, h1, hq, h with
    | .error f, h1, hq, h => rw [show v = _ from h]; exact Ev.go_err (f := fun n p s1 => G p s1 n) h1
    | .ok (p, s1), h1, hq, h => obtain rfl := hq p s1 rfl; exact Ev.go (f := fun n p s1 => G p s1 n) h1 h
theorem Does.ex {G : Int → PS → Nat → Option Out} {v1 v : Out} (h1 : Does o (fun s n => rd n (.chain 0) d s) v1) (h : Does (toO v1) (G (kidO v1)) v) : Does o (fun s n => needEx n d s (fun a s1 => G a s1 n)) v := Does.go (G := G) h1 h
theorem Does.of_reads {m : Md} {v : Out} {s : PS} (h : Reads m d s v) : Does (.ok s) (fun s n => rd n m d s) v := h.ev
theorem Does.of_preads {m : Pm} {v : Out} {s : PS} (h : PReads m d s v) : Does (.ok s) (fun s n => prd n m d s) v := h.ev
/-- what came, in one form -/
structure Came (B g : Nat) (L : List Tk) (w : World) (R : Bx) (d : Nat) (v : Out) (en : Ending) (w' : World) (R' : Bx) : Prop where
  fr : Fr g w w' R R'
  z : R'.Z = R.Z
  en : en = .returned (.int .i64 (kidO v))
  any : Any B g L w' R' d (toO v)
theorem Ends.came {v : Out} {en : Ending} (h : Ends B g L w R d v en w') : ∃ R', Came B g L w R d v en w' R' := by
  obtain ⟨R', hf, hz, hv⟩ := h
  rcases hv with ⟨k, s1, rfl, rfl, hg⟩ | ⟨f, rfl, rfl, hg⟩
  · exact ⟨R', hf, hz, rfl, hg⟩
  · exact ⟨R', hf, hz, rfl, hg⟩
theorem any_expr (H : Any B g L w R d o) (hd : ∀ s, o = .ok s → d ≤ 200) :
    Calls Tryz.prog 65 #[.pointer (some ⟨g, 0, none⟩)] w fun en w' => ∃ v R', Does o (fun s n => rd n (.chain 0) d s) v ∧ Came B g L w R d v en w' R' ∧ ∀ n m, Lim o n m → Lim (toO v) n m := by
  cases o with
  | ok s =>
    refine (expr_good H (hd s rfl)).mono ?_
    rintro en w' ⟨v, hrd, he⟩
    obtain ⟨R', hc⟩ := Ends.came he
    refine ⟨v, R', Does.of_reads hrd, hc, fun n m hl => ?_⟩
    match v, hrd with
    | .error f, _ => exact Lim.err
    | .ok (p, s1), hrd =>
      intro s' e
      injection e with e
      subst e
      have h1 := hl s rfl
      have h2 := hrd.slack
      exact ⟨by omega, by omega⟩
  | error f =>
    refine (expr_bad H).mono ?_
    rintro en w' ⟨rfl, hb⟩
    exact ⟨.error f, R, rfl, ⟨Fr.of_below R hb, rfl, rfl, Bad.below H hb⟩, fun n m _ => Lim.err⟩
theorem any_want (b : List UInt8) (H : Any B g L w R d o) :
    Calls Tryz.prog 68 #[.pointer (some ⟨g, 0, none⟩), .string ⟨b.toArray⟩] w fun en w' => (∃ x, en = .returned x) ∧ Any B g L w' R d (needO b o) ∧ Fr g w w' R R := by
  cases o with
  | ok s =>
    cases hb : s.is b with
    | true => rw [needO_yes hb]; exact (g_want_yes b H hb).mono fun en w' ⟨h1, h2, h3⟩ => ⟨⟨_, h1⟩, h2, h3⟩
    | false => rw [needO_no hb]; exact (g_want_no b H hb).mono fun en w' ⟨h1, h2, h3⟩ => ⟨⟨_, h1⟩, h2, h3⟩
  | error f => exact (b_want b H).mono fun en w' ⟨h1, h2⟩ => ⟨⟨_, h1⟩, Bad.below H h2, Fr.of_below R h2⟩
theorem any_name (H : Any B g L w R d o) :
    Calls Tryz.prog 89 #[.pointer (some ⟨g, 0, none⟩)] w fun en w' => en = .returned (.string (nmO o)) ∧ Any B g L w' R d (nameO o) ∧ Fr g w w' R R := by
  cases o with
  | ok s =>
    by_cases hb : s.tok.kind = 1
    · rw [nameO_yes hb, nmO_yes hb]; exact g_name_yes H hb
    · rw [nameO_no hb, nmO_no hb]; exact g_name_no H hb
  | error f => exact (b_name H).mono fun en w' ⟨h1, h2⟩ => ⟨h1, Bad.below H h2, Fr.of_below R h2⟩
theorem any_token (H : Any B g L w R d o) :
    Calls Tryz.prog 42 #[.pointer (some ⟨g, 0, none⟩)] w fun en w' => ∃ (k n a : Nat) (x : ByteArray), en = .returned (.agg #[.int .i64 (k : Int), .string x, .int .i64 (n : Int), .int .i64 (a : Int)]) ∧ (∀ s, o = .ok s → k = s.tok.kind ∧ a = s.tok.place) ∧ Below w.heap.size w w' := by
  cases o with
  | ok s => exact (g_token H).mono fun en w' ⟨h1, h2⟩ => ⟨_, _, _, _, h1, (fun s' e => by injection e with e; subst e; exact ⟨rfl, rfl⟩), h2⟩
  | error f => exact (b_token H).mono fun en w' ⟨k, n, a, x, h1, h2⟩ => ⟨k, n, a, x, h1, (fun s' e => by cases e), h2⟩
theorem any_fail (x a : Nat) (hx : x ≠ 0) (H : Any B g L w R d o) :
    Calls Tryz.prog 41 #[.pointer (some ⟨g, 0, none⟩), .int .i64 (x : Int), .int .i64 (a : Int)] w fun en w' => (∃ v, en = .returned v) ∧ Any B g L w' R d (failO x a o) ∧ Fr g w w' R R := by
  cases o with
  | ok s => exact g_fail x a hx H
  | error f => exact (b_fail x a hx H).mono fun en w' ⟨h1, h2⟩ => by subst h2; exact ⟨h1, H, Fr.of_below R (Below.refl _ _)⟩
theorem any_open (a : Nat) (H : Any B g L w R d o) (hd2 : d ≤ 1000) :
    Calls Tryz.prog 91 #[.pointer (some ⟨g, 0, none⟩), .int .i64 (a : Int)] w fun en w' => (∃ x, en = .returned x) ∧ Any B g L w' R (d + 1) (openO d a o) ∧ Fr g w w' R R := by
  cases o with
  | ok s =>
    by_cases hd : 200 ≤ d
    · rw [openO_no hd]; exact (g_open_deep a H hd hd2).mono fun en w' ⟨h1, h2⟩ => ⟨⟨_, h1⟩, h2⟩
    · rw [openO_yes hd]; exact (g_open_ok a H (by omega)).mono fun en w' ⟨h1, h2⟩ => ⟨⟨_, h1⟩, h2⟩
  | error f => exact (b_open a H hd2).mono fun en w' ⟨h1, h2⟩ => ⟨⟨_, h1⟩, h2⟩
theorem any_close (H : Any B g L w R (d + 1) o) (hd2 : d ≤ 1000) :
    Calls Tryz.prog 93 #[.pointer (some ⟨g, 0, none⟩)] w fun en w' => (∃ x, en = .returned x) ∧ Any B g L w' R d o ∧ Fr g w w' R R := by
  cases o with
  | ok s => exact g_close H hd2
  | error f => exact b_close H hd2
theorem any_skip (b : List UInt8) (H : Any B g L w R d o) :
    Calls Tryz.prog 67 #[.pointer (some ⟨g, 0, none⟩), .string ⟨b.toArray⟩] w fun en w' => ∃ (c : Bool) (o' : Except Flt PS), en = .returned (.bool c) ∧ Any B g L w' R d o' ∧ Fr g w w' R R ∧
      ((c = true ∧ ∃ s, o = .ok s ∧ s.is b = true ∧ o' = .ok s.next) ∨ (c = false ∧ o' = o ∧ ∀ s, o = .ok s → s.is b = false)) := by
  cases o with
  | ok s =>
    cases hb : s.is b with
    | true => exact (g_skip_yes b H hb).mono fun en w' ⟨h1, h2, h3⟩ => ⟨true, .ok s.next, h1, h2, h3, .inl ⟨rfl, s, rfl, hb, rfl⟩⟩
    | false => exact (g_skip_no b H hb).mono fun en w' ⟨h1, h2⟩ => ⟨false, .ok s, h1, Good.below H h2, Fr.of_below R h2, .inr ⟨rfl, rfl, fun s' e => by injection e with e; subst e; exact hb⟩⟩
  | error f => exact (b_skip b H).mono fun en w' ⟨h1, h2⟩ => ⟨false, .error f, h1, Bad.below H h2, Fr.of_below R h2, .inr ⟨rfl, rfl, fun s' e => by cases e⟩⟩
theorem any_is (b : List UInt8) (H : Any B g L w R d o) :
    Calls Tryz.prog 40 #[.pointer (some ⟨g, 0, none⟩), .string ⟨b.toArray⟩] w fun en w' => ∃ c : Bool, en = .returned (.bool c) ∧ Below w.heap.size w w' ∧ ((c = true ∧ ∃ s, o = .ok s ∧ s.is b = true) ∨ (c = false ∧ ∀ s, o = .ok s → s.is b = false)) := by
  cases o with
  | ok s =>
    refine (g_is b H).mono fun en w' ⟨h1, h2⟩ => ⟨s.is b, h1, h2, ?_⟩
    cases hb : s.is b with
    | true => exact .inl ⟨rfl, s, rfl, hb⟩
    | false => exact .inr ⟨rfl, fun s' e => by injection e with e; subst e; exact hb⟩
  | error f => exact (b_is b H).mono fun en w' ⟨h1, h2⟩ => ⟨false, h1, h2, .inr ⟨rfl, fun s' e => by cases e⟩⟩
theorem any_put {B' : Nat} (K : Int) (v : Value) (acc : List Int) (n : Int) (S : ByteArray) (a : Nat) (H : Any B g L w R d o) (hk : Now B' w v acc) (hl : Lim o L.length L.length) (hn : acc.length ≤ 100000) :
    Calls Tryz.prog 44 #[.pointer (some ⟨g, 0, none⟩), .agg #[.int .i64 K, v, .int .i64 n, .string S, .int .i64 (a : Int)]] w fun en w' => ∃ u R', Does o (fun s _ => some (lay (En K acc n S (a : Int)) s)) u ∧ Came B g L w R d u en w' R' ∧ ∀ n m, Lim o n m → Lim (toO u) (n + 1) m := by
  obtain ⟨ka, kc, rfl⟩ := own_shape5 hk
  cases o with
  | ok s =>
    refine (g_put ⟨K, ka, kc, acc, n, S, (a : Int)⟩ a H hk (hl s rfl).1 hn rfl).mono ?_
    intro en w' he
    obtain ⟨R', hc⟩ := Ends.came he
    refine ⟨_, R', Ev.const, hc, fun n' m hl => ?_⟩
    show Lim (toO (lay _ s)) _ _
    unfold lay
    by_cases h2 : 200 < high s.h acc
    · rw [if_pos (by exact h2)]; exact Lim.err
    · rw [if_neg (by exact h2)]
      intro s' e
      injection e with e
      subst e
      have h1 := hl s rfl
      exact ⟨by show (s.l ++ [_]).length + s.r.length ≤ _; rw [List.length_append, List.length_singleton]; omega, h1.2⟩
  | error f =>
    refine (b_put _ _ _ _ _ H).mono ?_
    rintro en w' ⟨rfl, hb⟩
    exact ⟨.error f, R, rfl, ⟨Fr.of_below R hb, rfl, rfl, Bad.below H hb⟩, fun n m _ => Lim.err⟩
end Go.Proofs.YtagacfcpepoaoaaGreatDoor

namespace Go.Proofs.YtagacfcpepoaoaaGreatDoor
open Go.RowKit
set_option linter.unusedVariables false

/-- the table of statements -/
def row3 (b : List UInt8) (K : Int) (f P : Nat) : List Value := [.string ⟨b.toArray⟩, .int .i64 K, .func (.func f) #[.pointer (some ⟨P, 0, none⟩)] #[]]
def tblCells (P : Nat) : Array Value :=
  #[.string ⟨#[118, 97, 114]⟩, .int .i64 12, .func (.func 34) #[.pointer (some ⟨P, 0, none⟩)] #[],
    .string ⟨#[105, 102]⟩, .int .i64 15, .func (.func 35) #[.pointer (some ⟨P, 0, none⟩)] #[],
    .string ⟨#[119, 104, 105, 108, 101]⟩, .int .i64 16, .func (.func 36) #[.pointer (some ⟨P, 0, none⟩)] #[],
    .string ⟨#[102, 111, 114]⟩, .int .i64 17, .func (.func 37) #[.pointer (some ⟨P, 0, none⟩)] #[],
    .string ⟨#[98, 114, 101, 97, 107]⟩, .int .i64 18, .func (.func 38) #[.pointer (some ⟨P, 0, none⟩)] #[],
    .string ⟨#[99, 111, 110, 116, 105, 110, 117, 101]⟩, .int .i64 19, .func (.func 38) #[.pointer (some ⟨P, 0, none⟩)] #[],
    .string ⟨#[114, 101, 116, 117, 114, 110]⟩, .int .i64 20, .func (.func 39) #[.pointer (some ⟨P, 0, none⟩)] #[],
    .string ⟨#[112, 114, 105, 110, 116]⟩, .int .i64 21, .func (.func 39) #[.pointer (some ⟨P, 0, none⟩)] #[]]
def kindCells : Array Value := #[.string ⟨#[]⟩, .string ⟨#[105, 110, 116]⟩, .string ⟨#[98, 111, 111, 108]⟩, .string ⟨#[97, 114, 114]⟩]
/-- the words of the kinds, in their variable -/
def KTab (w : World) : Prop := ∃ t fr, w.heap[1]? = some (.cells kindCells t fr)
theorem kw_low : 1 < xTop := by decide
/-- the parser in block P, of the reader in g, its table in block T -/
structure Par (w : World) (g P T : Nat) : Prop where
  box : Held w P 42 #[.pointer (some ⟨g, 0, none⟩), .slice (some ⟨T, 0, none⟩) 8 8]
  tab : Held w T 71 (tblCells P)
  kw : KTab w
variable {B g P T N : Nat} {L : List Tk} {w0 w w' : World} {R0 R R' : Bx} {d d' : Nat} {o o' : Except Flt PS} {v : Value} {acc : List Int} {K n a : Int} {S : ByteArray}
theorem Par.keep (H : Any B g L w R d o) (F : Fr g w w' R R') (h : Par w g P T) : Par w' g P T := by
  refine ⟨H.held F h.box (by decide) (by decide) (H.vn_ne h.box (by decide)), H.held F h.tab (by decide) (by decide) (H.vn_ne h.tab (by decide)), ?_⟩
  obtain ⟨t, fr, hk⟩ := h.kw
  exact ⟨t, fr, (H.low F kw_low).trans hk⟩
theorem Par.c0 (h : Par w g P T) : w.cell? ⟨P, 0, none⟩ = some (.pointer (some ⟨g, 0, none⟩)) := h.box.at_ rfl
theorem Par.c1 (h : Par w g P T) : w.cell? ⟨P, 1, none⟩ = some (.slice (some ⟨T, 0, none⟩) 8 8) := h.box.at_ rfl
/-- between w0 and w, with a list that is being made -/
structure Pre (B g P T : Nat) (L : List Tk) (w0 : World) (R0 : Bx) (d : Nat) (w : World) (R : Bx) (o : Except Flt PS) (v : Value) (acc : List Int) : Prop where
  any : Any B g L w R d o
  fr : Fr g w0 w R0 R
  z0 : ∀ k, R0.Z k → R.Z k
  zv : ∀ k, v.ownBlock = some k → R.Z k
  now : Now w0.heap.size w v acc
  par : Par w g P T
  base : xTop ≤ w0.heap.size
/-- .. and a node -/
structure Run (B g P T : Nat) (L : List Tk) (w0 : World) (R0 : Bx) (d : Nat) (w : World) (R : Bx) (o : Except Flt PS) (N : Nat) (K : Int) (v : Value) (acc : List Int) (n : Int) (S : ByteArray) (a : Int) : Prop extends Pre B g P T L w0 R0 d w R o v acc where
  box : Held w N 59 #[.int .i64 K, v, .int .i64 n, .string S, .int .i64 a]
  off : R.vn.ownBlock ≠ some N
  new : w0.heap.size ≤ N
theorem Any.now_keep (h : Now B w v acc) {B1 : Nat} (H : Any B1 g L w R d o) (hz : ∀ k, v.ownBlock = some k → R.Z k) (F : Fr g w w' R R') : Now B w' v acc := by
  obtain ⟨p, l, hh, e, q, H⟩ := H.core
  refine h.block_own (fun k hk => ?_)
  have hlt := (World.ownsRow.lt h k hk).2
  refine F.block k hlt ?_ ?_ ((H.zone k (hz k hk)).2.1)
  · intro e
    subst e
    exact own_ne h H.box (by decide) hk
  · intro e
    rcases own_own h H.own (by decide) with h1 | h1
    · rw [h1] at hk; cases hk
    · exact h1 (hk.trans e.symm)
theorem Pre.step (H : Pre B g P T L w0 R0 d w R o v acc) (hA : Any B g L w' R' d' o') (F : Fr g w w' R R') (hz : R'.Z = R.Z) : Pre B g P T L w0 R0 d' w' R' o' v acc :=
  ⟨hA, H.fr.trans F, fun k hk => by rw [hz]; exact H.z0 k hk, fun k hk => by rw [hz]; exact H.zv k hk, Any.now_keep H.now H.any H.zv F, H.par.keep H.any F, H.base⟩
theorem Run.step (H : Run B g P T L w0 R0 d w R o N K v acc n S a) (hA : Any B g L w' R' d' o') (F : Fr g w w' R R') (hz : R'.Z = R.Z) : Run B g P T L w0 R0 d' w' R' o' N K v acc n S a := by
  refine ⟨H.toPre.step hA F hz, H.any.held F H.box (by decide) (by decide) H.off, fun e => ?_, H.new⟩
  rcases F.vn N e with h | h
  · exact H.off h
  · have := H.box.lt; omega
theorem Pre.below (H : Pre B g P T L w0 R0 d w R o v acc) (hb : Below w.heap.size w w') : Pre B g P T L w0 R0 d w' R o v acc := H.step (H.any.below hb) (Fr.of_below R hb) rfl
theorem Run.below (H : Run B g P T L w0 R0 d w R o N K v acc n S a) (hb : Below w.heap.size w w') : Run B g P T L w0 R0 d w' R o N K v acc n S a := H.step (H.any.below hb) (Fr.of_below R hb) rfl
theorem below_drew (w : World) : Below w.heap.size w w.drew := (below_drewN w 1 _)
/-- at a function's beginning -/
theorem Pre.start (H : Any B g L w R d o) (hP : Par w g P T) : Pre B g P T L w R d w R o (.slice none 0 0) [] :=
  ⟨H, Fr.of_below R (Below.refl _ _), fun k hk => hk, fun k hk => by simp [Value.ownBlock] at hk, ⟨rfl, .inl ⟨rfl, rfl⟩⟩, hP, H.tabs.size⟩
theorem Any.off_new (H : Any B g L w R d o) : R.vn.ownBlock ≠ some w.heap.size := by
  obtain ⟨p, l, hh, e, q, H⟩ := H.core
  exact fun e => by have := (H.own.lt _ e).2; omega
/-- a node is made -/
theorem Pre.node (H : Pre B g P T L w0 R0 d w R o v acc) (K n : Int) (S : ByteArray) (a : Int) : Run B g P T L w0 R0 d (w.alloc (.cells #[.int .i64 K, v, .int .i64 n, .string S, .int .i64 a] 59)) R o w.heap.size K v acc n S a :=
  ⟨H.below ((Below.refl _ _).alloc (Nat.le_refl _) _), Held.new _ _ _, H.any.off_new, H.fr.size⟩
/-- a cell of the node is written -/
theorem Pre.any_set (H : Pre B g P T L w0 R0 d w R o v acc) {cs : Array Value} (hbox : Held w N 59 cs) (off : R.vn.ownBlock ≠ some N) (new : w0.heap.size ≤ N) (i : Nat) (u : Value) : Pre B g P T L w0 R0 d (w.setCell ⟨N, i, none⟩ u) R o v acc := by
  have hN : xTop ≤ N := Nat.le_trans H.base new
  have gr := grown_setCell w N i u
  refine ⟨H.any.other hbox off hN gr, H.fr.other new gr, H.z0, H.zv, World.ownsRow.kept H.now gr (.inr (own_ne H.now hbox (by decide))), ?_, H.base⟩
  have K1 : ∀ k, k ≠ N → (w.setCell ⟨N, i, none⟩ u).heap[k]? = w.heap[k]? := fun k hk => Below.heap_setCell w ⟨N, i, none⟩ u k hk
  have hne : ∀ {G t cs}, Held w G t cs → t ≠ 59 → G ≠ N := by
    intro G t cs hG ht e
    subst e
    have h5 : w.heap[G]? = _ := hG
    have h6 : w.heap[G]? = _ := hbox
    rw [h5] at h6
    injection h6 with h6
    injection h6 with _ h7
    exact ht h7
  refine ⟨H.par.box.block (K1 P (hne H.par.box (by decide))), H.par.tab.block (K1 T (hne H.par.tab (by decide))), ?_⟩
  obtain ⟨t, fr, hk⟩ := H.par.kw
  exact ⟨t, fr, (K1 _ (by have := kw_low; omega)).trans hk⟩
theorem Run.set_n (H : Run B g P T L w0 R0 d w R o N K v acc n S a) (n' : Int) : Run B g P T L w0 R0 d (w.setCell ⟨N, 2, none⟩ (.int .i64 n')) R o N K v acc n' S a :=
  ⟨H.toPre.any_set H.box H.off H.new 2 _, H.box.set 2 _, H.off, H.new⟩
/-- the list becomes the node's -/
theorem Pre.set_v {u : Value} (H : Pre B g P T L w0 R0 d w R o v acc) (hbox : Held w N 59 #[.int .i64 K, u, .int .i64 n, .string S, .int .i64 a]) (off : R.vn.ownBlock ≠ some N) (new : w0.heap.size ≤ N) : Run B g P T L w0 R0 d (w.setCell ⟨N, 1, none⟩ v) R o N K v acc n S a :=
  ⟨H.any_set hbox off new 1 _, hbox.set 1 _, off, new⟩
/-- the node is written anew, without a list -/
theorem Run.store5 (H : Run B g P T L w0 R0 d w R o N K v acc n S a) (K' n' : Int) (S' : ByteArray) (a' : Int) : Run B g P T L w0 R0 d (((((w.setCell ⟨N, 0, none⟩ (.int .i64 K')).setCell ⟨N, 1, none⟩ (.slice none 0 0)).setCell ⟨N, 2, none⟩ (.int .i64 n')).setCell ⟨N, 3, none⟩ (.string S')).setCell ⟨N, 4, none⟩ (.int .i64 a')) R o N K' (.slice none 0 0) [] n' S' a' := by
  have h0 : Pre B g P T L w0 R0 d w R o (.slice none 0 0) [] := ⟨H.any, H.fr, H.z0, fun k hk => by simp [Value.ownBlock] at hk, ⟨rfl, .inl ⟨rfl, rfl⟩⟩, H.par, H.base⟩
  have b0 := H.box
  have h1 := h0.any_set b0 H.off H.new 0 (.int .i64 K')
  have b1 := b0.set 0 (.int .i64 K')
  have h2 := h1.any_set b1 H.off H.new 1 (.slice none 0 0)
  have b2 := b1.set 1 (.slice none 0 0)
  have h3 := h2.any_set b2 H.off H.new 2 (.int .i64 n')
  have b3 := b2.set 2 (.int .i64 n')
  have h4 := h3.any_set b3 H.off H.new 3 (.string S')
  have b4 := b3.set 3 (.string S')
  have h5 := h4.any_set b4 H.off H.new 4 (.int .i64 a')
  have b5 := b4.set 4 (.int .i64 a')
  exact ⟨h5, b5, H.off, H.new⟩
/-- a number is put behind the list's -/
theorem Pre.push (H : Pre B g P T L w0 R0 d w R o v acc) {w3 : World} {v3 : Value} {k : Int} {cs : Array Value} (h3 : Now w0.heap.size w3 v3 (acc ++ [k])) (hg : (w.alloc (.cells cs 3)).grownBy w3 v.ownBlock) (hw : ∀ j, v3.ownBlock = some j → v.ownBlock = some j ∨ j = (w.alloc (.cells cs 3)).heap.size) :
    ∃ R3, Pre B g P T L w0 R0 d w3 R3 o v3 (acc ++ [k]) ∧ R3.vn = R.vn := by
  have hB : Below w.heap.size w (w.alloc (.cells cs 3)) := (Below.refl _ _).alloc (Nat.le_refl _) _
  have hv := own_below H.now hB
  have K1 : ∀ G t cs', Held w G t cs' → t ≠ 3 → w3.heap[G]? = w.heap[G]? := by
    intro G t cs' hG ht
    rw [hg.block G (by have := hG.lt; have := hB.size; omega) (fun e => own_ne H.now hG (fun e => ht e.symm) e.symm), hB.block G hG.lt]
  refine ⟨{ R with Z := fun k => R.Z k ∨ v3.ownBlock = some k }, ⟨H.any.wider hB hv H.base H.zv hg _ (fun k hk => ?_), fr_foreign H.fr hB hv hg _, fun k hk => .inl (H.z0 k hk), fun k hk => .inr hk, h3, ⟨H.par.box.block (K1 _ _ _ H.par.box (by decide)), H.par.tab.block (K1 _ _ _ H.par.tab (by decide)), ?_⟩, H.base⟩, rfl⟩
  · rcases hk with hk | hk
    · exact .inl hk
    · rcases hw k hk with h1 | h1
      · exact .inl (H.zv k h1)
      · exact .inr ⟨by rw [h1]; simp, (World.ownsRow.lt h3 k hk).2⟩
  · obtain ⟨t, fr, hk⟩ := H.par.kw
    have hlt := (Array.getElem?_eq_some_iff.1 hk).1
    have hl := kw_low
    have hb := H.base
    exact ⟨t, fr, (hg.block _ (by have := hB.size; omega) (fun e => by have := (World.ownsRow.lt H.now _ e.symm).1; omega)).trans ((hB.block _ hlt).trans hk)⟩
theorem Run.push (H : Run B g P T L w0 R0 d w R o N K v acc n S a) {w3 : World} {v3 : Value} {k : Int} {cs : Array Value} (h3 : Now w0.heap.size w3 v3 (acc ++ [k])) (hg : (w.alloc (.cells cs 3)).grownBy w3 v.ownBlock) (hw : ∀ j, v3.ownBlock = some j → v.ownBlock = some j ∨ j = (w.alloc (.cells cs 3)).heap.size) :
    ∃ R3, Run B g P T L w0 R0 d (w3.setCell ⟨N, 1, none⟩ v3) R3 o N K v3 (acc ++ [k]) n S a ∧ w3.cell? ⟨N, 1, none⟩ = some v ∧ w3.frozen? ⟨N, 1, none⟩ = false := by
  obtain ⟨R3, h1, h2⟩ := H.toPre.push h3 hg hw
  have hB : Below w.heap.size w (w.alloc (.cells cs 3)) := (Below.refl _ _).alloc (Nat.le_refl _) _
  have hbox : Held w3 N 59 _ := H.box.block (by
    rw [hg.block N (by have := H.box.lt; have := hB.size; omega) (fun e => own_ne H.now H.box (by decide) e.symm), hB.block N H.box.lt])
  exact ⟨R3, h1.set_v hbox (by rw [h2]; exact H.off) H.new, hbox.at_ rfl, hbox.frozen 1⟩
end Go.Proofs.YtagacfcpepoaoaaGreatDoor
