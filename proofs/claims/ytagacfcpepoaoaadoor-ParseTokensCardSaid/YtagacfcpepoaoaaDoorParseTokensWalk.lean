/- The walk through ParseTokens. -/
import Derived.Test.YtagacfcpepoaoaaDoorParseStandsWalk
import Derived.Test.YtagacfcpepoaoaaDoorParseSame
import Derived.Test.YtagacfcpepoaoaaDoorMJoin
namespace Go.Proofs.YtagacfcpepoaoaaDoor
open Go.RowKit
set_option linter.unusedVariables false

theorem nd_map2 (f : Nd → Nd) {l : List Nd} {i : Nat} (hi : i < l.length) : nd (l.map f) i = f (nd l i) := by
  unfold nd
  rw [List.getD_eq_getElem?_getD, List.getD_eq_getElem?_getD, List.getElem?_map, List.getElem?_eq_getElem hi]
  rfl
theorem al_of {a b r r' : List Nd} (ha : a.map bare = r) (hb : b.map bare = r') (h : r.map ncore = r'.map ncore) : Al a b := by
  have hlen : a.length = b.length := by
    have := congrArg List.length h
    rw [← ha, ← hb, List.length_map, List.length_map, List.length_map, List.length_map] at this
    exact this
  refine ⟨hlen, fun j hj => ?_⟩
  have h1 : nd ((a.map bare).map ncore) j = nd ((b.map bare).map ncore) j := by rw [ha, hb, h]
  rw [nd_map2 ncore (by rw [List.length_map]; exact hj), nd_map2 ncore (by rw [List.length_map]; omega), nd_map2 bare hj, nd_map2 bare (by omega)] at h1
  have e1 : (nd a j).kind = (nd b j).kind := by have := congrArg Nd.kind h1; exact this
  have e2 : (nd a j).n = (nd b j).n := by have := congrArg Nd.n h1; exact this
  have e3 : (nd a j).s = (nd b j).s := by have := congrArg Nd.s h1; exact this
  have e4 : (nd a j).kids = (nd b j).kids := by have := congrArg Nd.kids h1; exact this
  exact ⟨e1, e2, by unfold Nd.t; rw [e3], e4⟩
theorem few_of {a r : List Nd} (ha : a.map bare = r) (h : ∀ x ∈ r, x.kids.length ≤ r.length) (hr : r.length ≤ 100000) : ∀ i, i < a.length → (nd a i).kids.length ≤ 100000 := by
  intro i hi
  have hm : bare (nd a i) ∈ r := by
    rw [← ha, ← nd_map2 bare hi]
    unfold nd
    rw [List.getD_eq_getElem?_getD, List.getElem?_eq_getElem (by rw [List.length_map]; exact hi)]
    exact List.getElem_mem _
  have h8 := h _ hm
  have h9 : (bare (nd a i)).kids.length = (nd a i).kids.length := rfl
  omega
theorem joinR_app : ∀ (A C : List Tk), joinR (A ++ C) = joinR A ++ joinR C
  | [], C => rfl
  | t :: A, C => by
    show t.text ++ 9 :: 35 :: 125 :: 10 :: joinR (A ++ C) = (t.text ++ 9 :: 35 :: 125 :: 10 :: joinR A) ++ joinR C
    rw [joinR_app A C, List.append_assoc]
    rfl
theorem joinR_next {L : List Tk} {k : Nat} {t : Tk} (h : L[k]? = some t) : joinR (L.take (k + 1)) = joinR (L.take k) ++ t.text ++ [9, 35, 125, 10] := by
  have hk := (List.getElem?_eq_some_iff.1 h).1
  rw [List.take_succ_eq_append_getElem hk, joinR_app]
  have : L[k] = t := (List.getElem?_eq_some_iff.1 h).2
  rw [this, List.append_assoc]
  rfl
theorem joinR_take (L : List Tk) (k : Nat) : (joinR (L.take k)).length ≤ (joinR L).length := by
  have := congrArg List.length (joinR_app (L.take k) (L.drop k))
  rw [List.take_append_drop, List.length_append] at this
  omega
def PForm (w' : World) (v : Out) (av : Option Addr) (na ac fx fq : Nat) : Prop :=
  (fx = 0 ∧ fq = 0 ∧ ∃ ps s' l', v = .ok (ps, s') ∧ na = l'.length ∧ Nodes w' av l' ∧ l'.map bare = s'.l ∧ l'.length ≤ 100000) ∨ (fx ≠ 0 ∧ av = none ∧ na = 0 ∧ ac = 0 ∧ v = .error (fx, fq))
/-- what is told of two texts of the same tokens -/
theorem two_forms {L M : List Tk} {w1 w2 : World} {v u : Out} {av bv : Option Addr} {na ac fx fq nb bc gx gq : Nat} (hL : IsTk L) (hM : IsTk M) (h0 : 0 < L.length) (h1 : 0 < M.length) (hc : L.map tcore = M.map tcore) (hr : PReads (.prog []) 0 ⟨L, [], []⟩ v) (hs : PReads (.prog []) 0 ⟨M, [], []⟩ u)
    (ha : PForm w1 v av na ac fx fq) (hb : PForm w2 u bv nb bc gx gq) :
    fx = gx ∧ ∃ l1 l2, na = l1.length ∧ nb = l2.length ∧ Nodes w1 av l1 ∧ Nodes w2 bv l2 ∧ Al l1 l2 ∧ na ≤ 100000 ∧ nb ≤ 100000 ∧ (∀ i, i < l1.length → (nd l1 i).kids.length ≤ 100000) ∧ (∀ i, i < l2.length → (nd l2 i).kids.length ≤ 100000) := by
  obtain ⟨u', hu', hv⟩ := preads_alk hc hr
  have := hs.one hu'
  subst this
  rcases ha with ⟨rfl, rfl, ps, s1, l1, rfl, rfl, hN1, hb1, hle1⟩ | ⟨hx, rfl, rfl, rfl, rfl⟩
  · rcases hb with ⟨rfl, rfl, qs, s2, l2, rfl, rfl, hN2, hb2, hle2⟩ | ⟨_, _, _, _, rfl⟩
    · have hv : ps = qs ∧ Alk s1 s2 := hv
      have t1 := preads_told hL h0 hr
      have t2 := preads_told hM h1 hs
      have e1 : s1.l.length = l1.length := by rw [← hb1, List.length_map]
      have e2 : s2.l.length = l2.length := by rw [← hb2, List.length_map]
      exact ⟨rfl, l1, l2, rfl, rfl, hN1, hN2, al_of hb1 hb2 hv.2.l, hle1, hle2, few_of hb1 t1.2.2.2.1 (by omega), few_of hb2 t2.2.2.2.1 (by omega)⟩
    · exact hv.elim
  · rcases hb with ⟨_, _, _, _, _, rfl, _⟩ | ⟨hy, rfl, rfl, rfl, rfl⟩
    · exact hv.elim
    · have hv : fx = gx := hv
      have hn : ∀ w, Nodes w none [] := fun w => ⟨fun h => absurd h (by decide), fun j hj => absurd hj (by simp)⟩
      exact ⟨hv, [], [], rfl, rfl, hn _, hn _, ⟨rfl, fun j hj => absurd hj (by simp)⟩, by omega, by omega, fun i hi => absurd hi (by simp), fun i hi => absurd hi (by simp)⟩
theorem tok_text {L : List Tk} {w : World} {g k : Nat} {t : Tk} (hc : ∀ j u, (tkCells L)[j]? = some u → w.cell? ⟨g, j, none⟩ = some u) (h : L[k]? = some t) : w.cell? ⟨g, k * 4 + 1, none⟩ = some (.string ⟨t.text.toArray⟩) :=
  hc (k * 4 + 1) _ ((tkCells_get L k 1 t h (by omega)).trans rfl)
set_option maxRecDepth 100000 in
set_option maxHeartbeats 8000000 in
theorem ptokens_any (s : ByteArray) (w : World) (hX : PTabs w) :
    Calls Tryd.prog 4 #[.string s] w fun e w' => e = .returned (.bool true) ∧ Below w.heap.size w w' := by
  have HX := hidden hX
  clear hX
  have HWK : Hid (∀ w' : World, Below w.heap.size w w' → Calls Tryd.prog 6 #[] w' fun e w'' => e = .returned (.bool true) ∧ Below w.heap.size w w'') := by
    intro w' hb
    refine (works_any w' (HX.out.below hb)).mono ?_
    rintro e w'' ⟨h1, h2⟩
    exact ⟨h1, below_next hb h2⟩
  go_enter Tryd.func4, Tryd.ntmps4
  by_cases hlong : 1000 < s.size
  · have hli : (1000 : Int) < (s.size : Int) := by omega
    go_wp2_with fail
    refine (HWK.out w (Below.refl _ _)).mono ?_
    rintro e w1 ⟨rfl, hb1⟩
    have HB1 := hidden hb1
    clear hb1
    go_wp2_with fail
    go_ret
    exact ⟨rfl, HB1.out⟩
  have hli : ¬ (1000 : Int) < (s.size : Int) := by omega
  have HS6 : Hid (s.size ≤ 65536) := by show s.size ≤ 65536; omega
  rw [veil 4, veil 11, veil 12, veil 13]
  go_wp2_with fail
  cases hT : T s.data.toList 0 with
  | error xq =>
    obtain ⟨x, q⟩ := xq
    have HT := hidden hT
    have hx0 : ((x : Int) != 0) = true := by have hx := T_err hT; simp; omega
    clear hT
    refine (tokens_err s w HS6.out HT.out).mono ?_
    rintro e w2 ⟨hb2, rfl⟩
    have HB1 := hidden hb2
    clear hb2
    obtain ⟨W2, hW2⟩ : ∃ W2, W2 = w2.alloc (.cells #[.int .i64 (x : Int), .int .i64 (q : Int)] 26) := ⟨_, rfl⟩
    obtain ⟨G, hG⟩ : ∃ G, G = w2.heap.size := ⟨_, rfl⟩
    have HG : Hid (Held W2 G 26 #[.int .i64 (x : Int), .int .i64 (q : Int)]) := by rw [hW2, hG]; exact Held.new _ _ _
    have hbn : Below w2.heap.size w2 W2 := by rw [hW2]; exact (Below.refl _ _).alloc (Nat.le_refl _) _
    replace HB1 := hidden (below_next HB1.out hbn)
    clear hbn
    go_wp2_with fail
    rw [← hW2, ← hG]
    clear hW2 hG
    have d0 : W2.cell? ⟨G, 0, none⟩ = some (.int .i64 (x : Int)) := HG.out.at_ rfl
    refine wp_veil ?_
    go_wp2_with fail
    refine (HWK.out W2 HB1.out).mono ?_
    rintro e w6 ⟨rfl, hb6⟩
    have HB6 := hidden hb6
    clear hb6
    go_wp2_with fail
    go_ret
    exact ⟨rfl, HB6.out⟩
  | ok L =>
    have HT := hidden hT
    have HIT := hidden (T_isTk hT)
    have HL0 := hidden (T_len hT).1
    obtain ⟨M, hTM, hcore, hjl⟩ := T_again hT
    have HTM := hidden hTM
    have HCO := hidden hcore
    have hjl2 : (joinR L).length ≤ 5004 := by rw [length_of] at hjl; omega
    have HJL := hidden hjl2
    have hn0 := (T_len hT).1
    have hn1 : L.length ≤ 1001 := by have := (T_len hT).2; rw [length_of] at this; omega
    obtain ⟨n, hn⟩ : ∃ n, n = L.length := ⟨_, rfl⟩
    rw [← hn] at hn0 hn1
    have HN := hidden hn
    clear hT hn hTM hcore hjl hjl2
    refine (tokens_ok s w HS6.out HT.out).mono ?_
    rintro e w2 ⟨v1, rfl, hV1⟩
    have HV1 := hidden hV1
    clear hV1
    obtain ⟨W2, hW2⟩ : ∃ W2, W2 = w2.alloc (.cells #[.int .i64 0, .int .i64 0] 26) := ⟨_, rfl⟩
    obtain ⟨G, hG⟩ : ∃ G, G = w2.heap.size := ⟨_, rfl⟩
    have HG : Hid (Held W2 G 26 #[.int .i64 0, .int .i64 0]) := by rw [hW2, hG]; exact Held.new _ _ _
    have hbn : Below w2.heap.size w2 W2 := by rw [hW2]; exact (Below.refl _ _).alloc (Nat.le_refl _) _
    have HVW := hidden (HV1.out.quiet hbn)
    clear hbn
    obtain ⟨ta, tc, hv, _, hp⟩ := HVW.out.shape
    obtain ⟨g, hga, hg, hc⟩ := hp HL0.out
    subst hga
    subst hv
    have HC := hidden hc
    have HBV : Hid (Below w.heap.size w W2) := HVW.out.2
    clear hp hg hc HV1
    rw [← HN.out]
    go_wp2_with fail
    rw [← hW2, ← hG]
    clear hW2 hG
    have c0 : W2.cell? ⟨G, 0, none⟩ = some (.int .i64 0) := HG.out.at_ rfl
    refine wp_veil ?_
    go_wp2_with fail
    clear c0
    go_loop [5, 6] (fun a i => ∃ (k : Nat) (X : ByteArray), k ≤ n ∧ a = .string X ∧ i = .int .i64 (k : Int) ∧ X.size ≤ 5004 ∧ Hid (X.data.toList = joinR (L.take k))) (fun _ i => n - (intOf i).toNat)
    case atStart => exact ⟨0, ⟨#[]⟩, Nat.zero_le _, rfl, rfl, Nat.zero_le _, (show (#[] : Array UInt8).toList = _ from rfl)⟩
    case round =>
      obtain ⟨k, X, hk, rfl, rfl, hXs, hS⟩ := hrel
      by_cases hlt : k < n
      · obtain ⟨t, ht⟩ : ∃ t, L[k]? = some t := ⟨_, List.getElem?_eq_getElem (by rw [← HN.out]; exact hlt)⟩
        have c3 : W2.cell? ⟨g, k * 4 + 1, none⟩ = some (.string ⟨t.text.toArray⟩) := tok_text HC.out ht
        have HNX := hidden (joinR_next ht)
        have hns : (X ++ ⟨t.text.toArray⟩ ++ ⟨#[9, 35, 125, 10]⟩ : ByteArray).size ≤ 5004 := by
          have h1 := joinR_take L (k + 1)
          rw [HNX.out] at h1
          have h2 := HJL.out
          have h3 : (X ++ ⟨t.text.toArray⟩ ++ ⟨#[9, 35, 125, 10]⟩ : ByteArray).size = (joinR (L.take k) ++ t.text ++ [9, 35, 125, 10]).length := by
            rw [← hS.out, ← length_of, ByteArray.data_append, Array.toList_append, ByteArray.data_append, Array.toList_append]
          omega
        have HNS : Hid ((X ++ ⟨t.text.toArray⟩ ++ ⟨#[9, 35, 125, 10]⟩ : ByteArray).data.toList = joinR (L.take (k + 1))) := by
          show _ = _
          rw [HNX.out, ByteArray.data_append, Array.toList_append, ByteArray.data_append, Array.toList_append, hS.out]
        obtain ⟨Y, hY⟩ : ∃ Y : ByteArray, Y = ⟨t.text.toArray⟩ := ⟨_, rfl⟩
        rw [← hY] at c3 HNS hns
        have hys : Y.size ≤ 5004 := by rw [ByteArray.size_append, ByteArray.size_append] at hns; omega
        clear ht hY
        have hki : (k : Int) < (n : Int) := by omega
        go_wp2_with fail
        go_round
        case rel => exact ⟨k + 1, X ++ Y ++ ⟨#[9, 35, 125, 10]⟩, by omega, rfl, by go_num, hns, HNS⟩
        case measure => simp [intOf]; omega
      · obtain rfl : k = n := by omega
        have hki : ¬ (k : Int) < (k : Int) := by omega
        have HJ : Hid (X.data.toList = joinR L) := by
          have := hS.out
          rw [List.take_of_length_le (by rw [HN.out]; exact Nat.le_refl _)] at this
          exact this
        have HXS : Hid (X.size ≤ 65536) := by show X.size ≤ 65536; omega
        clear hS
        go_wp2_with fail
        refine wp_veil ?_
        go_wp2_with fail
        refine (pparse_told s W2 (HX.out.below HBV.out) HS6.out).mono ?_
        intro e w3 h
        obtain ⟨hb3, av, na, ac, fx, fq, v, rfl, hr, hcase⟩ := h.form HT.out
        have HR := hidden hr
        have HCS : Hid (PForm w3 v av na ac fx fq) := hcase
        have HB3 := hidden (below_next HBV.out hb3)
        clear hr hcase h hb3
        obtain ⟨W4, hW4⟩ : ∃ W4, W4 = w3.alloc (.cells #[.int .i64 (fx : Int), .int .i64 (fq : Int)] 26) := ⟨_, rfl⟩
        obtain ⟨F, hF⟩ : ∃ F, F = w3.heap.size := ⟨_, rfl⟩
        have HF : Hid (Held W4 F 26 #[.int .i64 (fx : Int), .int .i64 (fq : Int)]) := by rw [hW4, hF]; exact Held.new _ _ _
        have hbn : Below w3.heap.size w3 W4 := by rw [hW4]; exact (Below.refl _ _).alloc (Nat.le_refl _) _
        have HB34 := hidden hbn
        replace HB3 := hidden (below_next HB3.out hbn)
        clear hbn
        go_wp2_with fail
        rw [← hW4, ← hF]
        clear hW4 hF
        refine wp_veil ?_
        go_wp2_with fail
        refine (pparse_told X W4 (HX.out.below HB3.out) HXS.out).mono ?_
        intro e w5 h
        obtain ⟨hb5, bv, nb, bc, gx, gq, u, rfl, hs, hcase⟩ := h.form (show T X.data.toList 0 = .ok M by rw [HJ.out]; exact HTM.out)
        have htwo := two_forms HIT.out (T_isTk HTM.out) HL0.out (T_len HTM.out).1 HCO.out HR.out hs HCS.out hcase
        obtain ⟨hfg, l1, l2, hna, hnb, hN1, hN2, hal, hna5, hnb5, hfew1, hfew2⟩ := htwo
        have HN1 := hidden (hN1.below (below_next HB34.out hb5))
        have HN2 := hidden hN2
        have HAL := hidden hal
        have HF1 := hidden hfew1
        have HF2 := hidden hfew2
        have HNA := hidden hna
        have HNB := hidden hnb
        replace HF := hidden (HF.out.since hb5)
        replace HB3 := hidden (below_next HB3.out hb5)
        subst hfg
        clear hs hcase h hb5 hN1 hN2 hal hfew1 hfew2 hna hnb HCS HR
        obtain ⟨W6, hW6⟩ : ∃ W6, W6 = w5.alloc (.cells #[.int .i64 (fx : Int), .int .i64 (gq : Int)] 26) := ⟨_, rfl⟩
        obtain ⟨E, hE⟩ : ∃ E, E = w5.heap.size := ⟨_, rfl⟩
        have HE : Hid (Held W6 E 26 #[.int .i64 (fx : Int), .int .i64 (gq : Int)]) := by rw [hW6, hE]; exact Held.new _ _ _
        have hbn : Below w5.heap.size w5 W6 := by rw [hW6]; exact (Below.refl _ _).alloc (Nat.le_refl _) _
        replace HB3 := hidden (below_next HB3.out hbn)
        replace HF := hidden (HF.out.since hbn)
        replace HN1 := hidden (HN1.out.below hbn)
        replace HN2 := hidden (HN2.out.below hbn)
        clear hbn
        go_wp2_with fail
        rw [← hW6, ← hE]
        clear hW6 hE
        refine wp_veil ?_
        go_wp2_with fail
        refine (sameNodes_any av bv ac bc na nb l1 l2 W6 HNA.out HNB.out HN1.out HN2.out (by omega) (by omega) HF1.out HF2.out).mono ?_
        rintro e w7 ⟨b, rfl, hiff, hb7⟩
        obtain rfl : b = true := hiff.2 HAL.out
        replace HB3 := hidden (below_next HB3.out hb7)
        replace HF := hidden (HF.out.since hb7)
        replace HE := hidden (HE.out.since hb7)
        clear hiff hb7
        have c0 : w7.cell? ⟨F, 0, none⟩ = some (.int .i64 (fx : Int)) := HF.out.at_ rfl
        have d0 : w7.cell? ⟨E, 0, none⟩ = some (.int .i64 (fx : Int)) := HE.out.at_ rfl
        go_wp2_with fail
        refine (HWK.out w7 HB3.out).mono ?_
        rintro e w8 ⟨rfl, hb8⟩
        have HB8 := hidden hb8
        clear hb8
        go_wp2_with fail
        go_ret
        exact ⟨rfl, HB8.out⟩
end Go.Proofs.YtagacfcpepoaoaaDoor
