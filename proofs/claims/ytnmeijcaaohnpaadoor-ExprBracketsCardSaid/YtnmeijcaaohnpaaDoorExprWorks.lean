/- The chapter's examples, and works. -/
import Derived.Test.YtnmeijcaaohnpaaDoorExprLex
import Derived.Test.YtnmeijcaaohnpaaDoorTreeTl2
namespace Go.Proofs.YtnmeijcaaohnpaaDoor
open Go.RowKit
set_option linter.unusedVariables false

theorem tokens_ok {L : List Tk} (s : ByteArray) (w : World) (hs : s.size ≤ 65536) (hT : T s.data.toList 0 = .ok L) :
    Calls Tryd.prog 7 #[.string s] w fun e w' => ∃ v, e = .returned (.tuple #[v, .agg #[.int .i64 0, .int .i64 0]]) ∧ Vals 31 4 w w' v L.length (tkCells L) := by
  refine (rtokens_any s w hs).mono ?_
  rintro e w' (⟨L', v, h1, h2, h3⟩ | ⟨x, p, h1, _⟩)
  · rw [hT] at h1
    injection h1 with h1
    subst h1
    exact ⟨v, h2, h3⟩
  · rw [hT] at h1; cases h1
theorem parse_yes {l : List UInt8} {L : List Tk} {o : Out} {r : List Nd} (hT : T l 0 = .ok L) (hl : l.length ≤ 65536) {w0 w : World} {v : Value} (hV : Vals 31 4 w0 w v L.length (tkCells L)) (hX : XTabs w) (hr : Reads (.chain 0) 0 ⟨L, [], []⟩ o) (hp : parsed o = .ok r) :
    Calls Tryd.prog 8 #[v] w fun e w' => Below w.heap.size w w' ∧ ∃ l' a c, e = .returned (.tuple #[.slice a l'.length c, .agg #[.int .i64 0, .int .i64 0]]) ∧ Nodes w' a l' ∧ l'.map bare = r := by
  refine (parse_told hT hl hV hX).mono ?_
  rintro e w' ⟨hb, o', hr', h⟩
  obtain rfl := hr.one hr'
  rcases h with ⟨r', l', a, c, h1, h2, h3, h4⟩ | ⟨x, q, h1, _⟩
  · rw [hp] at h1
    injection h1 with h1
    subst h1
    exact ⟨hb, l', a, c, h2, h3, h4⟩
  · rw [hp] at h1; cases h1
theorem parse_no {l : List UInt8} {L : List Tk} {o : Out} {x q : Nat} (hT : T l 0 = .ok L) (hl : l.length ≤ 65536) {w0 w : World} {v : Value} (hV : Vals 31 4 w0 w v L.length (tkCells L)) (hX : XTabs w) (hr : Reads (.chain 0) 0 ⟨L, [], []⟩ o) (hp : parsed o = .error (x, q)) :
    Calls Tryd.prog 8 #[v] w fun e w' => Below w.heap.size w w' ∧ e = .returned (.tuple #[.slice none 0 0, .agg #[.int .i64 (x : Int), .int .i64 (q : Int)]]) := by
  refine (parse_told hT hl hV hX).mono ?_
  rintro e w' ⟨hb, o', hr', h⟩
  obtain rfl := hr.one hr'
  rcases h with ⟨r', l', a, c, h1, _⟩ | ⟨x', q', h1, _, h2⟩
  · rw [hp] at h1; cases h1
  · rw [hp] at h1
    injection h1 with h1
    injection h1 with h3 h4
    subst h3 h4
    exact ⟨hb, h2⟩
theorem bare_al (l : List Nd) : Al l (l.map bare) := ⟨by simp, fun j _ => by rw [nd_bare]; exact ⟨rfl, rfl, rfl, rfl⟩⟩
theorem bare_rt {l : List Nd} (h : Rt (l.map bare)) : Rt l := (bare_al l).symm.rt (fun i => by rw [nd_bare]; exact Iff.rfl) h
/-- a-b*-c[1] -/
def exA : List UInt8 := [97, 45, 98, 42, 45, 99, 91, 49, 93]
def exAL : List Tk := [⟨1, [97], 0, 0⟩, ⟨4, [45], 0, 1⟩, ⟨1, [98], 0, 2⟩, ⟨4, [42], 0, 3⟩, ⟨4, [45], 0, 4⟩, ⟨1, [99], 0, 5⟩, ⟨4, [91], 0, 6⟩, ⟨2, [49], 1, 7⟩, ⟨4, [93], 0, 8⟩, ⟨0, [], 0, 9⟩]
def exAN : List Nd := [En 4 [] 0 ⟨#[97]⟩ 0, En 4 [] 0 ⟨#[98]⟩ 2, En 4 [] 0 ⟨#[99]⟩ 5, En 1 [] 1 ⟨#[]⟩ 7, En 8 [2, 3] 0 ⟨#[]⟩ 6, En 6 [4] 0 ⟨#[]⟩ 4, En 5 [1, 5] 13 ⟨#[]⟩ 3, En 5 [0, 6] 10 ⟨#[]⟩ 1]
theorem exA_T : T exA 0 = .ok exAL := by kernel_rfl
theorem exA_R : Reads (.chain 0) 0 ⟨exAL, [], []⟩ (.ok ([7], ⟨[⟨0, [], 0, 9⟩], exAN, [1, 1, 1, 1, 2, 3, 4, 5]⟩)) := ⟨60, by kernel_rfl⟩
/-- a<b<c -/
def exB : List UInt8 := [97, 60, 98, 60, 99]
def exBL : List Tk := [⟨1, [97], 0, 0⟩, ⟨4, [60], 0, 1⟩, ⟨1, [98], 0, 2⟩, ⟨4, [60], 0, 3⟩, ⟨1, [99], 0, 4⟩, ⟨0, [], 0, 5⟩]
theorem exB_T : T exB 0 = .ok exBL := by kernel_rfl
def exBO : Out := .ok ([2], ⟨[⟨4, [60], 0, 3⟩, ⟨1, [99], 0, 4⟩, ⟨0, [], 0, 5⟩], [En 4 [] 0 ⟨#[97]⟩ 0, En 4 [] 0 ⟨#[98]⟩ 2, En 5 [0, 1] 5 ⟨#[]⟩ 1], [1, 1, 2]⟩)
theorem exB_R : Reads (.chain 0) 0 ⟨exBL, [], []⟩ exBO := ⟨60, by kernel_rfl⟩
theorem exA_rt : Rt exAN := (parsed_ok (T_isTk exA_T) (by decide) exA_R rfl).right
theorem itoa_1 : Lib.itoa 1 = [49] := by
  unfold Lib.itoa
  rw [if_neg (by omega)]
  exact Lib.decDigits_one (by decide)
theorem exA_tx : tx exAN 7 = [40, 45, 32, 97, 32, 40, 42, 32, 98, 32, 40, 110, 101, 103, 32, 40, 97, 116, 32, 99, 32, 49, 41, 41, 41, 41] := by
  have hA := exA_rt.1.2.1
  have h0 : tx exAN 0 = [97] := by rw [tx_eq hA (by decide)]; kernel_rfl
  have h1 : tx exAN 1 = [98] := by rw [tx_eq hA (by decide)]; kernel_rfl
  have h2 : tx exAN 2 = [99] := by rw [tx_eq hA (by decide)]; kernel_rfl
  have h3 : tx exAN 3 = [49] := by
    rw [tx_eq hA (by decide)]
    show txf (En 1 [] 1 ⟨#[]⟩ 7) _ = _
    unfold txf
    rw [if_pos (by show (1 : Int) ≤ 4; omega)]
    unfold hd
    have e : wordOf (En 1 [] 1 ⟨#[]⟩ 7) = [49] := by
      show (if (1 : Int) = 1 then Lib.itoa 1 else _) = _
      rw [if_pos rfl, itoa_1]
    rw [e]
    trace_state
    rfl
  have h4 : tx exAN 4 = [40, 97, 116, 32, 99, 32, 49, 41] := by
    rw [tx_eq hA (by decide)]
    show txf (En 8 [2, 3] 0 ⟨#[]⟩ 6) [tx exAN 2, tx exAN 3] = _
    rw [h2, h3]
    kernel_rfl
  have h5 : tx exAN 5 = [40, 110, 101, 103, 32, 40, 97, 116, 32, 99, 32, 49, 41, 41] := by
    rw [tx_eq hA (by decide)]
    show txf (En 6 [4] 0 ⟨#[]⟩ 4) [tx exAN 4] = _
    rw [h4]
    kernel_rfl
  have h6 : tx exAN 6 = [40, 42, 32, 98, 32, 40, 110, 101, 103, 32, 40, 97, 116, 32, 99, 32, 49, 41, 41, 41] := by
    rw [tx_eq hA (by decide)]
    show txf (En 5 [1, 5] 13 ⟨#[]⟩ 3) [tx exAN 1, tx exAN 5] = _
    rw [h1, h5]
    kernel_rfl
  rw [tx_eq hA (by decide)]
  show txf (En 5 [0, 6] 10 ⟨#[]⟩ 1) [tx exAN 0, tx exAN 6] = _
  rw [h0, h6]
  kernel_rfl
set_option maxRecDepth 100000 in
set_option maxHeartbeats 4000000 in
theorem works_any (w : World) (hX : XTabs w) :
    Calls Tryd.prog 6 #[] w fun e w' => e = .returned (.bool true) ∧ Below w.heap.size w w' := by
  have HX := hidden hX
  have HX3 := hidden hX.size
  clear hX
  go_enter Tryd.func6, Tryd.ntmps6
  rw [veil 2, veil 3, veil 4, veil 5]
  go_wp2_with fail
  refine (tokens_ok (L := exAL) ⟨exA.toArray⟩ w (by decide) exA_T).mono ?_
  rintro e w1 ⟨v1, rfl, hV1⟩
  have HV1 := hidden hV1
  clear hV1
  go_wp2_with fail
  refine wp_veil ?_
  obtain ⟨W1, hW1⟩ : ∃ W1, W1 = w1.alloc (.cells #[.int .i64 0, .int .i64 0] 26) := ⟨_, rfl⟩
  have HVW : Hid (Vals 31 4 w W1 v1 exAL.length (tkCells exAL)) := by rw [hW1]; exact HV1.out.quiet ((Below.refl _ _).alloc (Nat.le_refl _) _)
  rw [← hW1]
  clear hW1 HV1
  have HX1 : Hid (XTabs W1) := HX.out.keep (fun k hk => HVW.out.2.block k (by have := HX3.out; omega))
  go_wp2_with fail
  refine (parse_yes exA_T (by decide) HVW.out HX1.out exA_R rfl).mono ?_
  rintro e w2 ⟨hb2, l', a, c, rfl, hN, hl'⟩
  have HB2 : Hid (Below w.heap.size w w2) := below_next HVW.out.2 hb2
  have HN2 := hidden hN
  have HL' := hidden hl'
  have hlen : l'.length = 8 := by have := congrArg List.length hl'; rw [List.length_map] at this; exact this
  rw [hlen]
  have HLEN := hidden hlen
  clear hb2 hN hl' hlen HVW HX1
  go_wp2_with fail
  refine wp_veil ?_
  obtain ⟨W2, hW2⟩ : ∃ W2, W2 = w2.alloc (.cells #[.int .i64 0, .int .i64 0] 26) := ⟨_, rfl⟩
  obtain ⟨F, hF⟩ : ∃ F, F = w2.heap.size := ⟨_, rfl⟩
  have HF : Hid (Held W2 F 26 #[.int .i64 0, .int .i64 0]) := by rw [hW2, hF]; exact Held.new _ _ _
  have hbn : Below w2.heap.size w2 W2 := by rw [hW2]; exact (Below.refl _ _).alloc (Nat.le_refl _) _
  replace HB2 := hidden (below_next HB2.out hbn)
  replace HN2 := hidden (HN2.out.below hbn)
  rw [← hW2, ← hF]
  clear hW2 hF hbn
  go_wp2_with fail
  refine (tokens_ok (L := exBL) ⟨exB.toArray⟩ W2 (by decide) exB_T).mono ?_
  rintro e w3 ⟨v3, rfl, hV3⟩
  have HV3 := hidden hV3
  clear hV3
  go_wp2_with fail
  refine wp_veil ?_
  obtain ⟨W3, hW3⟩ : ∃ W3, W3 = w3.alloc (.cells #[.int .i64 0, .int .i64 0] 26) := ⟨_, rfl⟩
  have HVX : Hid (Vals 31 4 W2 W3 v3 exBL.length (tkCells exBL)) := by rw [hW3]; exact HV3.out.quiet ((Below.refl _ _).alloc (Nat.le_refl _) _)
  rw [← hW3]
  clear hW3 HV3
  replace HF := hidden (HF.out.since HVX.out.2)
  replace HN2 := hidden (HN2.out.below HVX.out.2)
  have HB3 := hidden (below_next HB2.out HVX.out.2)
  have HX3' : Hid (XTabs W3) := HX.out.keep (fun k hk => HB3.out.block k (by have := HX3.out; omega))
  clear HB2
  go_wp2_with fail
  refine (parse_no (x := 8) (q := 3) exB_T (by decide) HVX.out HX3'.out exB_R rfl).mono ?_
  rintro e w4 ⟨hb4, rfl⟩
  have HB4 := hidden (below_next HB3.out hb4)
  replace HF := hidden (HF.out.since hb4)
  replace HN2 := hidden (HN2.out.below hb4)
  clear hb4 HB3 HVX HX3'
  go_wp2_with fail
  refine wp_veil ?_
  obtain ⟨W4, hW4⟩ : ∃ W4, W4 = w4.alloc (.cells #[.int .i64 ((8 : Nat) : Int), .int .i64 ((3 : Nat) : Int)] 26) := ⟨_, rfl⟩
  obtain ⟨G, hG⟩ : ∃ G, G = w4.heap.size := ⟨_, rfl⟩
  have HG : Hid (Held W4 G 26 #[.int .i64 8, .int .i64 3]) := by rw [hW4, hG]; exact Held.new _ _ _
  have hbn : Below w4.heap.size w4 W4 := by rw [hW4]; exact (Below.refl _ _).alloc (Nat.le_refl _) _
  replace HB4 := hidden (below_next HB4.out hbn)
  replace HN2 := hidden (HN2.out.below hbn)
  replace HF := hidden (HF.out.since hbn)
  rw [← hG]
  first | rw [← hW4] | (have e8 : ((8 : Nat) : Int) = 8 := rfl; have e3 : ((3 : Nat) : Int) = 3 := rfl; rw [e8, e3] at hW4; rw [← hW4])
  clear hW4 hG hbn
  have hRt : Rt l' := bare_rt (by rw [HL'.out]; exact exA_rt)
  have HRT := hidden hRt
  have HTX : Hid (tx l' 7 = tx exAN 7) := by show tx l' 7 = tx exAN 7; rw [(bare_al l').tx 7, HL'.out]
  clear hRt
  have c0 : W4.cell? ⟨F, 0, none⟩ = some (.int .i64 0) := HF.out.at_ rfl
  have c1 : W4.cell? ⟨F, 1, none⟩ = some (.int .i64 0) := HF.out.at_ rfl
  go_wp2_with fail
  refine (rright_any a c 8 l' W4 HLEN.out.symm HN2.out (by omega)).mono ?_
  rintro e w5 ⟨b, rfl, hiff, hb5⟩
  obtain rfl : b = true := hiff.2 HRT.out
  replace HB4 := hidden (below_next HB4.out hb5)
  replace HN2 := hidden (HN2.out.below hb5)
  replace HG := hidden (HG.out.since hb5)
  clear hiff hb5 c0 c1
  go_wp2_with fail
  refine (tell_lit a c 8 l' w5 7 7 HLEN.out.symm HRT.out HN2.out (by omega) (by rw [HLEN.out]; omega) rfl).mono ?_
  rintro e w6 ⟨rfl, hb6⟩
  replace HB4 := hidden (below_next HB4.out hb6)
  replace HG := hidden (HG.out.since hb6)
  rw [HTX.out, exA_tx]
  unfold txt
  clear hb6
  have c0 : w6.cell? ⟨G, 0, none⟩ = some (.int .i64 8) := HG.out.at_ rfl
  have c1 : w6.cell? ⟨G, 1, none⟩ = some (.int .i64 3) := HG.out.at_ rfl
  go_wp2_with fail
  go_ret
  exact ⟨rfl, HB4.out⟩
end Go.Proofs.YtnmeijcaaohnpaaDoor
