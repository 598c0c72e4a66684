/- ParseEx, ExprWorks, ParseUse, in one text. -/
import Derived.Test.YtagacfcpepoaoaaGreatDoorMShape
import Derived.Test.YtagacfcpepoaoaaGreatDoorExprLex
import Derived.Test.YtagacfcpepoaoaaGreatDoorTreeTl2
import Derived.Test.YtagacfcpepoaoaaGreatDoorMTold
namespace Go.Proofs.YtagacfcpepoaoaaGreatDoor
set_option linter.unusedVariables false

/-- fn main(x arr) int { print len(x); } -/
def exP : List UInt8 := [102, 110, 32, 109, 97, 105, 110, 40, 120, 32, 97, 114, 114, 41, 32, 105, 110, 116, 32, 123, 32, 112, 114, 105, 110, 116, 32, 108, 101, 110, 40, 120, 41, 59, 32, 125]
def exPL : List Tk := [⟨3, wFn, 0, 0⟩, ⟨1, [109, 97, 105, 110], 0, 3⟩, ⟨4, [40], 0, 7⟩, ⟨1, [120], 0, 8⟩, ⟨3, wArr, 0, 10⟩, ⟨4, [41], 0, 13⟩, ⟨3, wInt, 0, 15⟩, ⟨4, [123], 0, 19⟩, ⟨3, wPrint, 0, 21⟩, ⟨3, wLen, 0, 27⟩, ⟨4, [40], 0, 30⟩, ⟨1, [120], 0, 31⟩, ⟨4, [41], 0, 32⟩, ⟨4, [59], 0, 33⟩, ⟨4, [125], 0, 35⟩, ⟨0, [], 0, 36⟩]
theorem exP_T : T exP 0 = .ok exPL := by kernel_rfl
def exPN : List Nd := [En 24 [] 3 ⟨#[120]⟩ 8, En 4 [] 0 ⟨#[120]⟩ 31, En 9 [1] 0 ⟨#[]⟩ 27, En 21 [2] 0 ⟨#[]⟩ 21, En 23 [3] 0 ⟨#[]⟩ 19, En 25 [0, 4] 1 ⟨#[109, 97, 105, 110]⟩ 3, En 26 [5] 0 ⟨#[]⟩ 0]
theorem exP_R : PReads (.prog []) 0 ⟨exPL, [], []⟩ (.ok ([6], ⟨[⟨0, [], 0, 36⟩], exPN, [1, 1, 2, 3, 4, 5, 6]⟩)) := ⟨60, by kernel_rfl⟩
/-- fn f() { } -/
def exQ : List UInt8 := [102, 110, 32, 102, 40, 41, 32, 123, 32, 125]
def exQL : List Tk := [⟨3, wFn, 0, 0⟩, ⟨1, [102], 0, 3⟩, ⟨4, [40], 0, 4⟩, ⟨4, [41], 0, 5⟩, ⟨4, [123], 0, 7⟩, ⟨4, [125], 0, 9⟩, ⟨0, [], 0, 10⟩]
theorem exQ_T : T exQ 0 = .ok exQL := by kernel_rfl
theorem exQ_R : PReads (.prog []) 0 ⟨exQL, [], []⟩ (.error (8, 7)) := ⟨60, by kernel_rfl⟩
theorem exP_rt : Rt exPN := (preads_told (T_isTk exP_T) (by decide) exP_R).1
/-- (prog (fn main int (x arr) (block (print (len x))))) -/
theorem exP_tx : tx exPN 6 = [40, 112, 114, 111, 103, 32, 40, 102, 110, 32, 109, 97, 105, 110, 32, 105, 110, 116, 32, 40, 120, 32, 97, 114, 114, 41, 32, 40, 98, 108, 111, 99, 107, 32, 40, 112, 114, 105, 110, 116, 32, 40, 108, 101, 110, 32, 120, 41, 41, 41, 41, 41] := by
  have hA := exP_rt.1.2.1
  have h0 : tx exPN 0 = [40, 120, 32, 97, 114, 114, 41] := by rw [tx_eq hA (by decide)]; kernel_rfl
  have h1 : tx exPN 1 = [120] := by rw [tx_eq hA (by decide)]; kernel_rfl
  have h2 : tx exPN 2 = [40, 108, 101, 110, 32, 120, 41] := by
    rw [tx_eq hA (by decide)]
    show txf (En 9 [1] 0 ⟨#[]⟩ 27) [tx exPN 1] = _
    rw [h1]
    kernel_rfl
  have h3 : tx exPN 3 = [40, 112, 114, 105, 110, 116, 32, 40, 108, 101, 110, 32, 120, 41, 41] := by
    rw [tx_eq hA (by decide)]
    show txf (En 21 [2] 0 ⟨#[]⟩ 21) [tx exPN 2] = _
    rw [h2]
    kernel_rfl
  have h4 : tx exPN 4 = [40, 98, 108, 111, 99, 107, 32, 40, 112, 114, 105, 110, 116, 32, 40, 108, 101, 110, 32, 120, 41, 41, 41] := by
    rw [tx_eq hA (by decide)]
    show txf (En 23 [3] 0 ⟨#[]⟩ 19) [tx exPN 3] = _
    rw [h3]
    kernel_rfl
  have h5 : tx exPN 5 = [40, 102, 110, 32, 109, 97, 105, 110, 32, 105, 110, 116, 32, 40, 120, 32, 97, 114, 114, 41, 32, 40, 98, 108, 111, 99, 107, 32, 40, 112, 114, 105, 110, 116, 32, 40, 108, 101, 110, 32, 120, 41, 41, 41, 41] := by
    rw [tx_eq hA (by decide)]
    show txf (En 25 [0, 4] 1 ⟨#[109, 97, 105, 110]⟩ 3) [tx exPN 0, tx exPN 4] = _
    rw [h0, h4]
    kernel_rfl
  rw [tx_eq hA (by decide)]
  show txf (En 26 [5] 0 ⟨#[]⟩ 0) [tx exPN 5] = _
  rw [h5]
  kernel_rfl
end Go.Proofs.YtagacfcpepoaoaaGreatDoor

namespace Go.Proofs.YtagacfcpepoaoaaGreatDoor
open Go.RowKit
set_option linter.unusedVariables false

theorem tokens_ok {L : List Tk} (s : ByteArray) (w : World) (hs : s.size ≤ 65536) (hT : T s.data.toList 0 = .ok L) :
    Calls Tryz.prog 15 #[.string s] w fun e w' => ∃ v, e = .returned (.tuple #[v, .agg #[.int .i64 0, .int .i64 0]]) ∧ Vals 49 4 w w' v L.length (tkCells L) := by
  refine (rtokens_any s w hs).mono ?_
  rintro e w' (⟨L', v, h1, h2, h3⟩ | ⟨x, p, h1, _⟩)
  · rw [hT] at h1
    injection h1 with h1
    subst h1
    exact ⟨v, h2, h3⟩
  · rw [hT] at h1; cases h1
theorem bare_al (l : List Nd) : Al l (l.map bare) := ⟨by simp, fun j _ => by rw [nd_bare]; exact ⟨rfl, rfl, rfl, rfl⟩⟩
theorem bare_rt {l : List Nd} (h : Rt (l.map bare)) : Rt l := (bare_al l).symm.rt (fun i => by rw [nd_bare]; exact Iff.rfl) h
/-- a-b*-c[1] -/
def exA : List UInt8 := [97, 45, 98, 42, 45, 99, 91, 49, 93]
def exAL : List Tk := [⟨1, [97], 0, 0⟩, ⟨4, [45], 0, 1⟩, ⟨1, [98], 0, 2⟩, ⟨4, [42], 0, 3⟩, ⟨4, [45], 0, 4⟩, ⟨1, [99], 0, 5⟩, ⟨4, [91], 0, 6⟩, ⟨2, [49], 1, 7⟩, ⟨4, [93], 0, 8⟩, ⟨0, [], 0, 9⟩]
def exAN : List Nd := [En 4 [] 0 ⟨#[97]⟩ 0, En 4 [] 0 ⟨#[98]⟩ 2, En 4 [] 0 ⟨#[99]⟩ 5, En 1 [] 1 ⟨#[]⟩ 7, En 8 [2, 3] 0 ⟨#[]⟩ 6, En 6 [4] 0 ⟨#[]⟩ 4, En 5 [1, 5] 13 ⟨#[]⟩ 3, En 5 [0, 6] 10 ⟨#[]⟩ 1]
theorem exA_T : T exA 0 = .ok exAL := by kernel_rfl
theorem exA_R : Reads (.chain 0) 0 ⟨exAL, [], []⟩ (.ok ([7], ⟨[⟨0, [], 0, 9⟩], exAN, [1, 1, 1, 1, 2, 3, 4, 5]⟩)) := ⟨60, by kernel_rfl⟩
/-- a<b<c -/
def exB : List UInt8 := [97, 60, 98, 60, 99]
def exBL : List Tk := [⟨1, [97], 0, 0⟩, ⟨4, [60], 0, 1⟩, ⟨1, [98], 0, 2⟩, ⟨4, [60], 0, 3⟩, ⟨1, [99], 0, 4⟩, ⟨0, [], 0, 5⟩]
theorem exB_T : T exB 0 = .ok exBL := by kernel_rfl
def exBO : Out := .ok ([2], ⟨[⟨4, [60], 0, 3⟩, ⟨1, [99], 0, 4⟩, ⟨0, [], 0, 5⟩], [En 4 [] 0 ⟨#[97]⟩ 0, En 4 [] 0 ⟨#[98]⟩ 2, En 5 [0, 1] 5 ⟨#[]⟩ 1], [1, 1, 2]⟩)
theorem exB_R : Reads (.chain 0) 0 ⟨exBL, [], []⟩ exBO := ⟨60, by kernel_rfl⟩
theorem exA_rt : Rt exAN := (parsed_ok (T_isTk exA_T) (by decide) exA_R rfl).right
theorem itoa_1 : Lib.itoa 1 = [49] := by
  unfold Lib.itoa
  rw [if_neg (by omega)]
  exact Lib.decDigits_one (by decide)
theorem exA_tx : tx exAN 7 = [40, 45, 32, 97, 32, 40, 42, 32, 98, 32, 40, 110, 101, 103, 32, 40, 97, 116, 32, 99, 32, 49, 41, 41, 41, 41] := by
  have hA := exA_rt.1.2.1
  have h0 : tx exAN 0 = [97] := by rw [tx_eq hA (by decide)]; kernel_rfl
  have h1 : tx exAN 1 = [98] := by rw [tx_eq hA (by decide)]; kernel_rfl
  have h2 : tx exAN 2 = [99] := by rw [tx_eq hA (by decide)]; kernel_rfl
  have h3 : tx exAN 3 = [49] := by
    rw [tx_eq hA (by decide)]
    show txf (En 1 [] 1 ⟨#[]⟩ 7) _ = _
    unfold txf
    rw [if_pos (by show (1 : Int) ≤ 4; omega)]
    unfold hd
    have e : wordOf (En 1 [] 1 ⟨#[]⟩ 7) = [49] := by
      show (if (1 : Int) = 1 then Lib.itoa 1 else _) = _
      rw [if_pos rfl, itoa_1]
    rw [e]
    rfl
  have h4 : tx exAN 4 = [40, 97, 116, 32, 99, 32, 49, 41] := by
    rw [tx_eq hA (by decide)]
    show txf (En 8 [2, 3] 0 ⟨#[]⟩ 6) [tx exAN 2, tx exAN 3] = _
    rw [h2, h3]
    kernel_rfl
  have h5 : tx exAN 5 = [40, 110, 101, 103, 32, 40, 97, 116, 32, 99, 32, 49, 41, 41] := by
    rw [tx_eq hA (by decide)]
    show txf (En 6 [4] 0 ⟨#[]⟩ 4) [tx exAN 4] = _
    rw [h4]
    kernel_rfl
  have h6 : tx exAN 6 = [40, 42, 32, 98, 32, 40, 110, 101, 103, 32, 40, 97, 116, 32, 99, 32, 49, 41, 41, 41] := by
    rw [tx_eq hA (by decide)]
    show txf (En 5 [1, 5] 13 ⟨#[]⟩ 3) [tx exAN 1, tx exAN 5] = _
    rw [h1, h5]
    kernel_rfl
  rw [tx_eq hA (by decide)]
  show txf (En 5 [0, 6] 10 ⟨#[]⟩ 1) [tx exAN 0, tx exAN 6] = _
  rw [h0, h6]
  kernel_rfl
end Go.Proofs.YtagacfcpepoaoaaGreatDoor

namespace Go.Proofs.YtagacfcpepoaoaaGreatDoor
open Go.RowKit
set_option linter.unusedVariables false

/-- the tables that the program lays -/
structure PTabs (w : World) : Prop where
  lex : Tab w
  ex : XTabs w
  kw : KTab w
theorem PTabs.below {w w' : World} (h : PTabs w) (hb : Below w.heap.size w w') : PTabs w' := ⟨h.lex.below hb, h.ex.keep (fun k hk => hb.block k (by have := h.ex.size; omega)), h.kw.below hb⟩
/-- what Parse tells -/
def PT (l : List UInt8) (w : World) (e : Ending) (w' : World) : Prop := Below w.heap.size w w' ∧
  ((∃ x q : Nat, T l 0 = .error (x, q) ∧ e = .returned (.tuple #[.slice none 0 0, .agg #[.int .i64 (x : Int), .int .i64 (q : Int)]])) ∨
   (∃ L v, T l 0 = .ok L ∧ PReads (.prog []) 0 ⟨L, [], []⟩ v ∧
     ((∃ ps s' l' a c, v = .ok (ps, s') ∧ e = .returned (.tuple #[.slice a l'.length c, .agg #[.int .i64 0, .int .i64 0]]) ∧ Nodes w' a l' ∧ l'.map bare = s'.l ∧ l'.length ≤ 100000) ∨
      (∃ x q : Nat, v = .error (x, q) ∧ x ≠ 0 ∧ e = .returned (.tuple #[.slice none 0 0, .agg #[.int .i64 (x : Int), .int .i64 (q : Int)]])))))
theorem prog_len {L : List Tk} {ps : List Int} {s' : PS} (h : PReads (.prog []) 0 ⟨L, [], []⟩ (.ok (ps, s'))) : s'.l.length ≤ L.length + 1 := by
  obtain ⟨n, hn⟩ := h
  have h2 := prog_left n [] 0 ⟨L, [], []⟩ ps s' hn
  have e0 : ([] : List Nd).length = 0 := rfl
  simp only [e0] at h2
  omega
theorem pparse_told (s : ByteArray) (w : World) (hT : PTabs w) (hs : s.size ≤ 65536) :
    Calls Tryz.prog 5 #[.string s] w (PT s.data.toList w) := by
  refine (pparse_any s w hT.lex hT.ex hT.kw hs).mono ?_
  rintro e w' ⟨hb, h⟩
  refine ⟨hb, ?_⟩
  rcases h with h | ⟨L, v, hTl, hr, h⟩
  · exact .inl h
  · refine .inr ⟨L, v, hTl, hr, ?_⟩
    have hlen : s.data.toList.length ≤ 65536 := by rw [Array.length_toList]; exact hs
    have hIL := T_isL hTl hlen
    have hLL := (T_len hTl).2
    have hIT := T_isTk hTl
    rcases h with ⟨r, val, hp, he, hg⟩ | ⟨x, q, hp, hx, he⟩
    · match v, hr, hp with
      | .ok (ps, s'), hr, hp =>
        have hp : s'.l = r := by injection hp
        subst hp
        have ht := preads_told hIT hIL.some hr
        have hpl := prog_len hr
        obtain ⟨a, c, l', rfl, hN, hb'⟩ := hg.nodes (fun x hx => ⟨Nat.le_trans (ht.2.2.2.1 x hx) (by omega), (ht.2.2.2.2 x hx).1, (ht.2.2.2.2 x hx).2, s_small ht.1 x hx⟩)
        refine .inl ⟨ps, s', l', a, c, rfl, he, hN, hb', ?_⟩
        have := congrArg List.length hb'
        rw [List.length_map] at this
        omega
    · match v, hp with
      | .error f, hp =>
        have hp : f = (x, q) := by injection hp
        exact .inr ⟨x, q, by rw [hp], hx, he⟩
theorem pparse_yes {l : List UInt8} {L : List Tk} {ps : List Int} {s' : PS} (s : ByteArray) (w : World) (hT : PTabs w) (hs : s.size ≤ 65536) (hl : s.data.toList = l) (hTl : T l 0 = .ok L) (hr : PReads (.prog []) 0 ⟨L, [], []⟩ (.ok (ps, s'))) :
    Calls Tryz.prog 5 #[.string s] w fun e w' => Below w.heap.size w w' ∧ ∃ l' a c, e = .returned (.tuple #[.slice a l'.length c, .agg #[.int .i64 0, .int .i64 0]]) ∧ Nodes w' a l' ∧ l'.map bare = s'.l ∧ l'.length ≤ 100000 := by
  refine (pparse_told s w hT hs).mono ?_
  rintro e w' ⟨hb, h⟩
  refine ⟨hb, ?_⟩
  rw [hl, hTl] at h
  rcases h with ⟨x, q, h, _⟩ | ⟨L', v, h1, hr', h⟩
  · cases h
  · injection h1 with h1
    subst h1
    have := hr.one hr'
    subst this
    rcases h with ⟨ps', s1, l', a, c, h2, he, hN, hb', hl'⟩ | ⟨x, q, h2, _⟩
    · injection h2 with h2
      injection h2 with _ h2
      subst h2
      exact ⟨l', a, c, he, hN, hb', hl'⟩
    · cases h2
theorem pparse_no {l : List UInt8} {L : List Tk} {x q : Nat} (s : ByteArray) (w : World) (hT : PTabs w) (hs : s.size ≤ 65536) (hl : s.data.toList = l) (hTl : T l 0 = .ok L) (hr : PReads (.prog []) 0 ⟨L, [], []⟩ (.error (x, q))) :
    Calls Tryz.prog 5 #[.string s] w fun e w' => Below w.heap.size w w' ∧ e = .returned (.tuple #[.slice none 0 0, .agg #[.int .i64 (x : Int), .int .i64 (q : Int)]]) := by
  refine (pparse_told s w hT hs).mono ?_
  rintro e w' ⟨hb, h⟩
  refine ⟨hb, ?_⟩
  rw [hl, hTl] at h
  rcases h with ⟨x, q, h, _⟩ | ⟨L', v, h1, hr', h⟩
  · cases h
  · injection h1 with h1
    subst h1
    have := hr.one hr'
    subst this
    rcases h with ⟨ps', s1, l', a, c, h2, _⟩ | ⟨x', q', h2, _, he⟩
    · cases h2
    · injection h2 with h2
      injection h2 with h3 h4
      subst h3 h4
      exact he
set_option maxRecDepth 100000 in
set_option maxHeartbeats 4000000 in
theorem works_any (w : World) (hT : PTabs w) :
    Calls Tryz.prog 4 #[] w fun e w' => e = .returned (.bool true) ∧ Below w.heap.size w w' := by
  have HT := hidden hT
  clear hT
  go_enter Tryz.func4, Tryz.ntmps4
  rw [veil 2, veil 3]
  go_wp2_with fail
  refine (pparse_yes ⟨exP.toArray⟩ w HT.out (by decide) rfl exP_T exP_R).mono ?_
  rintro e w2 ⟨hb2, l', a, c, rfl, hN, hl', _⟩
  have HB2 := hidden hb2
  have HN2 := hidden hN
  have HL' := hidden hl'
  have hlen : l'.length = 7 := by have := congrArg List.length hl'; rw [List.length_map] at this; exact this
  rw [hlen]
  have HLEN := hidden hlen
  clear hb2 hN hl' hlen
  go_wp2_with fail
  refine wp_veil ?_
  obtain ⟨W2, hW2⟩ : ∃ W2, W2 = w2.alloc (.cells #[.int .i64 0, .int .i64 0] 26) := ⟨_, rfl⟩
  obtain ⟨F, hF⟩ : ∃ F, F = w2.heap.size := ⟨_, rfl⟩
  have HF : Hid (Held W2 F 26 #[.int .i64 0, .int .i64 0]) := by rw [hW2, hF]; exact Held.new _ _ _
  have hbn : Below w2.heap.size w2 W2 := by rw [hW2]; exact (Below.refl _ _).alloc (Nat.le_refl _) _
  replace HB2 := hidden (below_next HB2.out hbn)
  replace HN2 := hidden (HN2.out.below hbn)
  rw [← hW2, ← hF]
  clear hW2 hF hbn
  go_wp2_with fail
  refine (pparse_no ⟨exQ.toArray⟩ W2 (HT.out.below HB2.out) (by decide) rfl exQ_T exQ_R).mono ?_
  rintro e w4 ⟨hb4, rfl⟩
  have HB4 := hidden (below_next HB2.out hb4)
  replace HF := hidden (HF.out.since hb4)
  replace HN2 := hidden (HN2.out.below hb4)
  clear hb4 HB2
  go_wp2_with fail
  refine wp_veil ?_
  obtain ⟨W4, hW4⟩ : ∃ W4, W4 = w4.alloc (.cells #[.int .i64 ((8 : Nat) : Int), .int .i64 ((7 : Nat) : Int)] 26) := ⟨_, rfl⟩
  obtain ⟨G, hG⟩ : ∃ G, G = w4.heap.size := ⟨_, rfl⟩
  have HG : Hid (Held W4 G 26 #[.int .i64 8, .int .i64 7]) := by rw [hW4, hG]; exact Held.new _ _ _
  have hbn : Below w4.heap.size w4 W4 := by rw [hW4]; exact (Below.refl _ _).alloc (Nat.le_refl _) _
  replace HB4 := hidden (below_next HB4.out hbn)
  replace HN2 := hidden (HN2.out.below hbn)
  replace HF := hidden (HF.out.since hbn)
  rw [← hG]
  first | rw [← hW4] | (have e8 : ((8 : Nat) : Int) = 8 := rfl; have e3 : ((7 : Nat) : Int) = 7 := rfl; rw [e8, e3] at hW4; rw [← hW4])
  clear hW4 hG hbn
  have hRt : Rt l' := bare_rt (by rw [HL'.out]; exact exP_rt)
  have HRT := hidden hRt
  have HTX : Hid (tx l' 6 = tx exPN 6) := by show tx l' 6 = tx exPN 6; rw [(bare_al l').tx 6, HL'.out]
  clear hRt
  have c0 : W4.cell? ⟨F, 0, none⟩ = some (.int .i64 0) := HF.out.at_ rfl
  have c1 : W4.cell? ⟨F, 1, none⟩ = some (.int .i64 0) := HF.out.at_ rfl
  go_wp2_with fail
  refine (rright_any a c 7 l' W4 HLEN.out.symm HN2.out (by omega)).mono ?_
  rintro e w5 ⟨b, rfl, hiff, hb5⟩
  obtain rfl : b = true := hiff.2 HRT.out
  replace HB4 := hidden (below_next HB4.out hb5)
  replace HN2 := hidden (HN2.out.below hb5)
  replace HG := hidden (HG.out.since hb5)
  clear hiff hb5 c0 c1
  go_wp2_with fail
  refine (tell_lit a c 7 l' w5 6 6 HLEN.out.symm HRT.out HN2.out (by omega) (by rw [HLEN.out]; omega) rfl).mono ?_
  rintro e w6 ⟨rfl, hb6⟩
  replace HB4 := hidden (below_next HB4.out hb6)
  replace HG := hidden (HG.out.since hb6)
  rw [HTX.out, exP_tx]
  unfold txt
  clear hb6
  have c0 : w6.cell? ⟨G, 0, none⟩ = some (.int .i64 8) := HG.out.at_ rfl
  have c1 : w6.cell? ⟨G, 1, none⟩ = some (.int .i64 7) := HG.out.at_ rfl
  go_wp2_with fail
  go_ret
  exact ⟨rfl, HB4.out⟩
end Go.Proofs.YtagacfcpepoaoaaGreatDoor
