/- ExprTree, ExprParse, in one text. -/
import Derived.Test.YtagacfcpepoaoaaGreatDoorMPut
import Derived.Test.YtagacfcpepoaoaaGreatDoorExprChain
namespace Go.Proofs.YtagacfcpepoaoaaGreatDoor
open Go.RowKit
set_option linter.unusedVariables false

/-- a list of tokens as lex tells them -/
structure IsL (L : List Tk) : Prop where
  some : 0 < L.length
  many : L.length ≤ 100000
  fin : ∀ j t, L[j]? = .some t → t.kind ≠ 0 → j + 1 < L.length
set_option maxRecDepth 100000 in
theorem new_any {L : List Tk} (b off c : Nat) (w : World) (hT : XTabs w) (hL : IsL L) (hk : Toks w b off L) :
    Calls Tryz.prog 33 #[.slice (some ⟨b, off, none⟩) L.length c] w fun en w' => ∃ g R, en = .returned (.pointer (some ⟨g, 0, none⟩)) ∧ Rd w.heap.size g L w' R 0 0 [] [] 0 0 ∧ Below w.heap.size w w' := by
  have HT := hidden hT
  have HL := hidden hL
  have HC := hidden (clone_tok_some b off L.length c (tkCells L) w (tkCells_length L) (by have := hL.many; omega) hk (tkCells_one L))
  clear hT hL hk
  go_enter Tryz.func33, Tryz.ntmps33
  go_wp2_with fail
  refine HC.out.mono ?_
  rintro en w1 ⟨v, rfl, hown, _, hb⟩
  obtain ⟨tb, tc, rfl, htb⟩ := own_some hown HL.out.some
  have HO := hidden hown
  have HB := hidden hb
  have HTB := hidden htb
  clear hown hb htb
  go_wp2_with fail
  go_ret
  have hbb : Below w1.heap.size w1 (w1.alloc (.cells #[.slice (some ⟨tb, 0, none⟩) L.length tc, .int .i64 0, .int .i64 0, .slice none 0 0, .slice none 0 0, .int .i64 0, .int .i64 0] 74)) := (Below.refl _ _).alloc (Nat.le_refl _) _
  have hall := below_then HB.out hbb
  have hlt := (HO.out.lt tb rfl).2
  refine ⟨w1.heap.size, ⟨tb, tc, .slice none 0 0, .slice none 0 0, fun _ => False⟩, rfl, ⟨⟨Held.new w1 _ _, ?_, ?_, HTB.out, ?_, ⟨rfl, .inl ⟨rfl, rfl⟩⟩, ⟨rfl, .inl ⟨rfl, rfl⟩⟩, (fun x hx => by cases hx), (fun x hx => by cases hx), HB.out.size, HL.out.fin, HL.out.many, HT.out.keep (fun k hk => hall.block k (by have := HT.out.size; omega)), HT.out.size, (fun k hk => hk.elim)⟩, rfl, HL.out.some, Nat.zero_le _, (fun x hx => by cases hx)⟩, hall⟩
  · intro j u hj
    have h1 := HO.out.cells (g := tb) rfl j u hj
    rw [add_zero_at] at h1
    have h2 := hbb.cell (p := ⟨tb, j, none⟩) hlt
    rw [Nat.zero_add]
    exact h2.trans h1
  · exact Nat.lt_of_lt_of_le hlt hbb.size
  · rcases HO.out.2 with ⟨h1, _⟩ | ⟨g', cap, cur, h1, _, h3, _⟩
    · cases h1
    · injection h1 with h1
      injection h1 with h1
      injection h1 with h1
      subst h1
      exact ⟨cur, (0, 0), (hbb.block _ hlt).trans h3⟩
variable {B g : Nat} {L : List Tk} {w : World} {R : Bx} {p : Nat} {d e q : Int} {l : List Nd} {h : List Nat}
theorem two_told {w V : World} {A : Nat} {t : TypeId} {a0 b0 : Value} (h : Held V A t #[a0, b0]) (hb : Below w.heap.size w V) (hA : w.heap.size ≤ A) (a b : Value) :
    ∃ W', W' = ((V.setCell ⟨A, 0, none⟩ a).setCell ⟨A, 1, none⟩ b) ∧ Held W' A t #[a, b] ∧ Below w.heap.size w W' :=
  ⟨_, rfl, (h.set 0 _).set 1 _, (hb.setCell hA _).setCell hA _⟩
theorem fault_any (H : Rd B g L w R p d l h e q) :
    Calls Tryz.prog 13 #[.pointer (some ⟨g, 0, none⟩)] w fun en w' => en = .returned (.agg #[.int .i64 e, .int .i64 q]) ∧ Below w.heap.size w w' := by
  obtain ⟨W, hW⟩ : ∃ W, W = w.alloc (.cells #[.int .i64 0, .int .i64 0] 26) := ⟨_, rfl⟩
  have HB : Hid (Below w.heap.size w W) := by rw [hW]; exact (Below.refl _ _).alloc (Nat.le_refl _) _
  obtain ⟨G, hG⟩ : ∃ G, G = w.heap.size := ⟨_, rfl⟩
  have HG : Hid (Held W G 26 #[.int .i64 0, .int .i64 0]) := by rw [hW, hG]; exact Held.new _ _ _
  have HW := H.below HB.out
  have c5 := HW.c5
  have c6 := HW.c6
  have z0 : W.cell? ⟨G, 0, none⟩ = some (.int .i64 0) := HG.out.at_ rfl
  have z1 : W.cell? ⟨G, 1, none⟩ = some (.int .i64 0) := HG.out.at_ rfl
  have f0 := HG.out.frozen 0
  have f1 := HG.out.frozen 1
  have HGG := hidden hG
  clear H HW hG
  go_enter Tryz.func13, Tryz.ntmps13
  rw [veil 1]
  go_wp2_with fail
  rw [← hW, ← HGG.out]
  clear hW
  refine wp_veil ?_
  go_wp2_with fail
  obtain ⟨W', hW', hH, hBel⟩ := two_told HG.out HB.out (by rw [HGG.out]; exact Nat.le_refl _) (.int .i64 e) (.int .i64 q)
  rw [← hW']
  have y0 : W'.cell? ⟨G, 0, none⟩ = some (.int .i64 e) := hH.at_ rfl
  have y1 : W'.cell? ⟨G, 1, none⟩ = some (.int .i64 q) := hH.at_ rfl
  clear hW' hH
  exact bodyPost_ret (v := .agg #[.int .i64 e, .int .i64 q]) (by simp [results, Tryz.results13, go_sem, y0, y1]) rfl ⟨rfl, hBel⟩
theorem xdrop_nd {L : List Nd} {j : Nat} (hj : j < L.length) : L.drop j = nd L j :: L.drop (j + 1) := by
  rw [nd_of hj]
  exact List.drop_eq_getElem_cons hj
theorem xnd_left {A C : List Nd} {i : Nat} (h : i < A.length) : nd (A ++ C) i = nd A i := by
  unfold nd; rw [List.getD_eq_getElem?_getD, List.getD_eq_getElem?_getD, List.getElem?_append_left h]
theorem xnd_right {A C : List Nd} {i : Nat} (h : A.length ≤ i) : nd (A ++ C) i = nd C (i - A.length) := by
  unfold nd; rw [List.getD_eq_getElem?_getD, List.getD_eq_getElem?_getD, List.getElem?_append_right h]
/-- Tree on the way: the first ones have kids of their own -/
structure TrSt (w wr : World) (v : Value) (l Q : List Nd) (i : Nat) : Prop where
  own : wr.ownsRow w.heap.size 59 5 v l.length (ndCells (Q ++ l.drop i))
  kids : ∀ x ∈ Q, Now w.heap.size wr (kidV x) x.kids
  len : Q.length = i
  same : Q.map bare = (l.take i).map bare
  below : Below w.heap.size w wr
theorem set_one {A C : List Value} {c0 c1 c2 c3 c4 x : Value} {p : Nat} (hp : p = A.length) : (A ++ [c0, c1, c2, c3, c4] ++ C).set (p + 1) x = A ++ [c0, x, c2, c3, c4] ++ C := by
  subst hp
  simp
theorem TrSt.next {w wr w1 : World} {gp cp n : Nat} {l Q : List Nd} {i : Nat} {va : Option Addr} {kc : Nat} (h : TrSt w wr (.slice (some ⟨gp, 0, none⟩) n cp) l Q i) (hi : i < l.length) (hb : Below wr.heap.size wr w1) (hk : w1.ownsRow wr.heap.size 3 1 (.slice va (nd l i).kids.length kc) (nd l i).kids.length ((nd l i).kids.map (Value.int .i64))) :
    TrSt w (w1.setCell ⟨gp, i * 5 + 1, none⟩ (.slice va (nd l i).kids.length kc)) (.slice (some ⟨gp, 0, none⟩) n cp) l (Q ++ [⟨(nd l i).kind, va, kc, (nd l i).kids, (nd l i).n, (nd l i).s, (nd l i).at_⟩]) (i + 1) := by
  have hbw := h.below.size
  have own1 := own_below h.own hb
  have hset := own_set (u := .slice va (nd l i).kids.length kc) (j := i * 5 + 1) own1 (g := gp) rfl (by omega)
  have gr := grown_setCell w1 gp (i * 5 + 1) (.slice va (nd l i).kids.length kc)
  have K : ∀ v xs n, w1.ownsRow w.heap.size 3 1 v n xs → (w1.setCell ⟨gp, i * 5 + 1, none⟩ (.slice va (nd l i).kids.length kc)).ownsRow w.heap.size 3 1 v n xs := by
    intro v xs n hv
    refine World.ownsRow.kept hv gr ?_
    have h2 := own_own hv own1 (by decide)
    exact h2
  refine ⟨?_, ?_, by rw [List.length_append, h.len]; rfl, ?_, ?_⟩
  · have e1 : ndCells (Q ++ l.drop i) = ndCells Q ++ [.int .i64 (nd l i).kind, .slice (nd l i).ka (nd l i).kids.length (nd l i).kc, .int .i64 (nd l i).n, .string (nd l i).s, .int .i64 (nd l i).at_] ++ ndCells (l.drop (i + 1)) := by
      rw [xdrop_nd hi, ndCells_append, show nd l i :: l.drop (i + 1) = [nd l i] ++ l.drop (i + 1) from rfl, ndCells_append, ndCells_one, ← List.append_assoc]
      rfl
    rw [e1, set_one (by rw [ndCells_length, h.len])] at hset
    rw [ndCells_append, ndCells_append, ndCells_one]
    exact hset
  · intro x hx
    rcases List.mem_append.1 hx with hx | hx
    · exact K _ _ _ (own_below (h.kids x hx) hb)
    · rw [List.mem_singleton.1 hx]
      exact K _ _ _ (own_base hk hbw)
  · rw [List.map_append, h.same, List.take_add_one, List.map_append]
    congr 1
    rw [List.getElem?_eq_getElem hi]
    simp [bare, nd_of hi]
  · have hgp := (h.own.lt gp rfl).1
    exact (h.below.trans (hb.mono hbw)).setCell (p := ⟨gp, i * 5 + 1, none⟩) hgp _
set_option maxRecDepth 100000 in
set_option maxHeartbeats 4000000 in
theorem tree_any (H : Rd B g L w R p d l h e q) (hl : 0 < l.length) (hkl : ∀ x ∈ l, x.kids.length ≤ 100000) :
    Calls Tryz.prog 14 #[.pointer (some ⟨g, 0, none⟩)] w fun en w' => ∃ v l', en = .returned v ∧ w'.ownsRow w.heap.size 59 5 v l.length (ndCells l') ∧ l'.map bare = l.map bare ∧ (∀ x ∈ l', Now w.heap.size w' (kidV x) x.kids) ∧ Below w.heap.size w w' := by
  have hll : l.length ≤ 100000 := by have := H.few; have := H.here; have := H.many; omega
  have HC := hidden (clone_node w H.own (by omega) (one_cells l))
  have c3 := H.c3
  obtain ⟨vn, hvn⟩ : ∃ vn, vn = R.vn := ⟨_, rfl⟩
  rw [← hvn] at c3 HC
  have HH := hidden H
  have HKL := hidden hkl
  obtain ⟨n, hn⟩ : ∃ n, n = l.length := ⟨_, rfl⟩
  have HN := hidden hn
  rw [← hn] at hl hll
  clear H hkl hvn hn
  go_enter Tryz.func14, Tryz.ntmps14
  rw [veil 8]
  go_wp2_with fail
  refine HC.out.mono ?_
  rintro en w1 ⟨v, rfl, hown, hb⟩
  obtain ⟨gp, cp, rfl, _⟩ := own_some hown (by rw [← HN.out]; exact hl)
  have HST : Hid (TrSt w w1 (.slice (some ⟨gp, 0, none⟩) l.length cp) l [] 0) := ⟨hown, (fun x hx => by cases hx), rfl, rfl, hb⟩
  clear hown hb
  rw [← HN.out] at HST ⊢
  go_wp2_with fail
  go_loopw [14] (fun t14 wr => ∃ (i : Nat) (Q : List Nd), i ≤ n ∧ t14 = .int .i64 (i : Int) ∧ Hid (TrSt w wr (.slice (some ⟨gp, 0, none⟩) n cp) l Q i)) (fun t14 _ => n - (intOf t14).toNat)
  case atStart => exact ⟨0, [], by omega, rfl, HST⟩
  case round =>
    obtain ⟨i, Q, hi, rfl, HT⟩ := hrel
    by_cases hin : i < n
    · have hini : (i : Int) < (n : Int) := by omega
      have HIL : Hid (i < l.length) := by show i < _; rw [← HN.out]; exact hin
      obtain ⟨y, hy⟩ : ∃ y, y = nd l i := ⟨_, rfl⟩
      have HY := hidden hy
      have hmem : y ∈ l := by rw [hy, nd_of HIL.out]; exact List.getElem_mem _
      have HKN := hidden (own_below (HH.out.kids y hmem) HT.out.below)
      have hyl := HKL.out y hmem
      have hcell : wr.cell? ⟨gp, i * 5 + 1, none⟩ = some (.slice y.ka y.kids.length y.kc) := by
        have h1 := HT.out.own.cells (g := gp) rfl (i * 5 + 1) (.slice y.ka y.kids.length y.kc) (by
          rw [ndCells_get _ i 1 (by rw [List.length_append, HT.out.len, List.length_drop]; have := HIL.out; omega) (by decide), xnd_right (by rw [HT.out.len]; exact Nat.le_refl _), HT.out.len, Nat.sub_self, xdrop_nd HIL.out, hy]
          rfl)
        rw [add_zero_at] at h1
        exact h1
      clear hy hmem
      go_wp2_with fail
      refine (clone_int wr (v := .slice y.ka y.kids.length y.kc) HKN.out (by omega) (ints_oneCell _ _)).mono ?_
      rintro en w2 ⟨v2, rfl, hown2, hb2⟩
      obtain ⟨ka2, kc2, rfl⟩ := own_shape5 hown2
      have HN2 := hidden (HT.out.next HIL.out hb2 (by rw [← HY.out]; exact hown2))
      have hfz : w2.frozen? ⟨gp, i * 5 + 1, none⟩ = false := by
        have h1 := own_below HT.out.own hb2
        rw [← HN.out] at h1
        exact own_frozen h1 _
      have hc2 := (hb2.cell (p := ⟨gp, i * 5 + 1, none⟩) (HT.out.own.lt gp rfl).2).trans hcell
      clear hown2 hb2 hcell
      go_wp2_with fail
      obtain ⟨W2, hW2⟩ : ∃ W2, W2 = w2.setCell ⟨gp, i * 5 + 1, none⟩ (.slice ka2 y.kids.length kc2) := ⟨_, rfl⟩
      rw [← HY.out, ← hW2] at HN2
      rw [← hW2]
      clear hW2 hfz hc2
      refine wp_veil ?_
      go_wp2_with fail
      go_roundw
      case rel => exact ⟨i + 1, _, by omega, by go_num, HN2⟩
      case measure => simp [intOf]; omega
    · obtain rfl : i = n := by omega
      go_wp2_with fail
      go_ret
      refine ⟨_, Q, rfl, ?_, ?_, HT.out.kids, HT.out.below⟩
      · have := HT.out.own
        rw [List.drop_of_length_le (by rw [← HN.out]; exact Nat.le_refl _), List.append_nil] at this
        rw [← HN.out] at this ⊢
        exact this
      · rw [HT.out.same, List.take_of_length_le (by rw [← HN.out]; exact Nat.le_refl _)]
end Go.Proofs.YtagacfcpepoaoaaGreatDoor

namespace Go.Proofs.YtagacfcpepoaoaaGreatDoor
open Go.RowKit
set_option linter.unusedVariables false

/-- what Parse makes of what is read -/
def parsed (v : Out) : Except Flt (List Nd) := match v with
  | .error f => .error f
  | .ok (_, s) => if s.tok.kind = 0 then .ok s.l else .error (8, s.tok.place)
/-- nodes that were told -/
def Given (w w' : World) (v : Value) (l : List Nd) : Prop := ∃ l', w'.ownsRow w.heap.size 59 5 v l'.length (ndCells l') ∧ l'.map bare = l ∧ ∀ x ∈ l', Now w.heap.size w' (kidV x) x.kids
def Parsed (L : List Tk) (w : World) (en : Ending) (w' : World) : Prop :=
  ∃ v, Reads (.chain 0) 0 ⟨L, [], []⟩ v ∧ Below w.heap.size w w' ∧
    ((∃ l val, parsed v = .ok l ∧ en = .returned (.tuple #[val, .agg #[.int .i64 0, .int .i64 0]]) ∧ Given w w' val l) ∨
     (∃ x q : Nat, parsed v = .error (x, q) ∧ x ≠ 0 ∧ en = .returned (.tuple #[.slice none 0 0, .agg #[.int .i64 (x : Int), .int .i64 (q : Int)]])))
variable {B g : Nat} {L : List Tk} {w : World} {R : Bx} {d : Nat} {s : PS} {f : Flt}
theorem b_fault (H : Bad B g L w R d f) :
    Calls Tryz.prog 13 #[.pointer (some ⟨g, 0, none⟩)] w fun en w' => en = .returned (.agg #[.int .i64 (f.1 : Int), .int .i64 (f.2 : Int)]) ∧ Below w.heap.size w w' := by
  obtain ⟨p, l, h, H, _⟩ := H
  exact fault_any H
theorem b_isWrong (H : Bad B g L w R d f) :
    Calls Tryz.prog 70 #[.pointer (some ⟨g, 0, none⟩)] w fun en w' => en = .returned (.bool true) ∧ w' = w := by
  obtain ⟨p, l, h, H, hf⟩ := H
  exact isWrong_bad H (by omega)
theorem g_isWrong (H : Good B g L w R d s) :
    Calls Tryz.prog 70 #[.pointer (some ⟨g, 0, none⟩)] w fun en w' => en = .returned (.bool false) ∧ w' = w := by
  obtain ⟨p, l, H, _⟩ := H
  exact isWrong_ok H
theorem b_fail (x a : Nat) (hx : x ≠ 0) (H : Bad B g L w R d f) :
    Calls Tryz.prog 41 #[.pointer (some ⟨g, 0, none⟩), .int .i64 (x : Int), .int .i64 (a : Int)] w fun en w' => (∃ v, en = .returned v) ∧ w' = w := by
  obtain ⟨p, l, h, H, hf⟩ := H
  exact fail_bad _ _ H (by omega) (by omega)
theorem g_tree (H : Good B g L w R d s) (hl : 0 < s.l.length) (hk : ∀ x ∈ s.l, x.kids.length ≤ 100000) :
    Calls Tryz.prog 14 #[.pointer (some ⟨g, 0, none⟩)] w fun en w' => ∃ v, en = .returned v ∧ Given w w' v s.l ∧ Below w.heap.size w w' := by
  obtain ⟨p, l, H, _, hls⟩ := H
  refine (tree_any H (by rw [hls, List.length_map] at hl; exact hl) (fun x hx => hk (bare x) (by rw [hls]; exact List.mem_map_of_mem hx))).mono ?_
  rintro en w' ⟨v, l', h1, h2, h3, h4, h5⟩
  have hlen : l'.length = l.length := by have := congrArg List.length h3; simpa using this
  exact ⟨v, h1, ⟨l', by rw [hlen]; exact h2, by rw [hls]; exact h3, h4⟩, h5⟩
theorem Given.base {w0 w w' : World} {v : Value} {l : List Nd} (h : Given w w' v l) (hb : w0.heap.size ≤ w.heap.size) : Given w0 w' v l := by
  obtain ⟨l', h1, h2, h3⟩ := h
  exact ⟨l', own_base h1 hb, h2, fun x hx => own_base (h3 x hx) hb⟩
theorem Given.below {w w1 w' : World} {v : Value} {l : List Nd} (h : Given w w1 v l) (hb : Below w1.heap.size w1 w') : Given w w' v l := by
  obtain ⟨l', h1, h2, h3⟩ := h
  exact ⟨l', own_below h1 hb, h2, fun x hx => own_below (h3 x hx) hb⟩
end Go.Proofs.YtagacfcpepoaoaaGreatDoor
