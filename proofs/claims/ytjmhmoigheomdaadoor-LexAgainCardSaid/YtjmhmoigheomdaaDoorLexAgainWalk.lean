/- The walk through LexAgain, where the text has tokens. -/
import Derived.Test.YtjmhmoigheomdaaDoorLexAgainLists
namespace Go.Proofs.YtjmhmoigheomdaaDoor
open Go.RowKit
set_option linter.unusedVariables false

set_option maxRecDepth 100000 in
set_option maxHeartbeats 4000000 in
theorem again_ok (s : ByteArray) (h : Nat) (L : List Tk) (w : World) (hT : Tab w) (hs : s.size ≤ 300) (hh : h < 256) (hL : T s.data.toList 0 = .ok L) :
    Calls Tryd.prog 4 #[.string s, .int .u8 (h : Int)] w fun e w' => e = .returned (.bool true) ∧ Below w.heap.size w w' := by
  obtain ⟨l, hl⟩ : ∃ l, l = s.data.toList := ⟨_, rfl⟩
  have hlen : l.length = s.size := by rw [hl]; exact Array.length_toList
  rw [← hl] at hL
  obtain ⟨m, hm⟩ : ∃ m, m = h % 7 := ⟨_, rfl⟩
  have hm6 : m ≤ 6 := by omega
  have hm7 : (h : Int) % 7 = (m : Int) := by omega
  obtain ⟨n, hn⟩ : ∃ n, n = L.length := ⟨_, rfl⟩
  have hLS := hL
  unfold T at hLS
  have hn0 : 0 < n := by rw [hn]; exact S_some hLS
  have hn1 : n ≤ 301 := by
    have := S_length hLS
    rw [List.length_drop] at this
    omega
  have HJL : Hid ((joined L).length ≤ 601) := by
    show (joined L).length ≤ 601
    have := joined_length hLS
    rw [List.length_drop] at this
    omega
  have HM2 : Hid (T (dots m ++ l) 0 = .ok (L.map (Tk.moved (4 * m)))) := by
    show T (dots m ++ l) 0 = _
    rw [T_dots, T_shift, hL]
    rfl
  obtain ⟨K, hK, hLike⟩ := T_joined hLS 0
  have HLEN := hidden hlen
  have HL := hidden hl
  have HT := hidden hT
  have HM := hidden hm
  have HN := hidden hn
  have HLL := hidden hL
  have HK := hidden hK
  have HLIKE := hidden hLike
  clear hl hlen hT hm hn hL hLS hK hLike
  go_enter Tryd.func4, Tryd.ntmps4
  rw [veil 4, veil 10, veil 18]
  go_wp2_with fail
  refine (tokens_any s w HT.out (by omega)).mono ?_
  rintro e w1 hTold
  rw [← HL.out] at hTold
  rcases hTold with ⟨L', v, hL', rfl, hV⟩ | ⟨x, p, hx, _⟩
  · obtain rfl : L' = L := by have := hL'.symm.trans HLL.out; injection this
    obtain ⟨g1, cap1, rfl, hc1, hR1⟩ := row_of hV (by rw [← HN.out]; exact hn0)
    rw [← HN.out] at hc1 ⊢
    have HB1 := hidden hV.2
    clear hV hL'
    go_wp2_with fail
    refine wp_veil ?_
    obtain ⟨W1, hW⟩ : ∃ W, W = w1.alloc (.cells #[.int .i64 0, .int .i64 0] 26) := ⟨_, rfl⟩
    obtain ⟨f1, hf⟩ : ∃ f, f = w1.heap.size := ⟨_, rfl⟩
    have HF1 : Hid (Held W1 f1 26 #[.int .i64 0, .int .i64 0]) := by rw [hW, hf]; exact Held.new _ _ _
    have hB1 : Below w1.heap.size w1 W1 := by rw [hW]; exact (Below.refl _ _).alloc (Nat.le_refl _) _
    have HBW1 := hidden (below_then HB1.out hB1)
    have HR1 := hidden (hR1.below hB1)
    rw [← hW, ← hf]
    clear hW hf hB1 hR1 HB1
    go_wp2_with fail
    go_loop [7, 8] (fun c i => ∃ (k : Nat) (B : ByteArray), k ≤ m ∧ i = .int .i64 (k : Int) ∧ c = .string B ∧ B.size = 4 * k ∧ Hid (B = ⟨(dots k).toArray⟩)) (fun _ i => m - (intOf i).toNat)
    case atStart => exact ⟨0, ⟨#[]⟩, Nat.zero_le _, rfl, rfl, rfl, rfl⟩
    case round =>
      obtain ⟨k, B, hk, rfl, rfl, hBs, hB⟩ := hrel
      by_cases hlt : k < m
      · have hN : Hid (B ++ ⟨#[9, 35, 120, 10]⟩ = ⟨(dots (k + 1)).toArray⟩) := by
          show B ++ ⟨#[9, 35, 120, 10]⟩ = ⟨(dots k ++ dot).toArray⟩
          rw [hB.out]
          show ByteArray.mk (dots k).toArray ++ ByteArray.mk dot.toArray = _
          rw [ByteArray.mk_append_mk]
        have hNs : (B ++ ⟨#[9, 35, 120, 10]⟩ : ByteArray).size = 4 * (k + 1) := by
          rw [ByteArray.size_append, hBs]
          rfl
        have HNS := hidden hNs
        clear hNs
        go_wp2_with fail
        go_round
        case rel => exact ⟨k + 1, B ++ ⟨#[9, 35, 120, 10]⟩, by omega, by go_num, rfl, HNS.out, hN⟩
        case measure => simp [intOf]; omega
      · obtain rfl : k = m := by omega
        have hB24 : B.size ≤ 24 := by omega
        have HBS := hidden hBs
        clear hBs
        go_wp2_with fail
        have hBsl : (B ++ s).data.toList = dots k ++ l := by
          rw [ByteArray.data_append, hB.out, HL.out]
          simp
        refine (tokens_any (B ++ s) W1 (HT.out.below HBW1.out) (by rw [ByteArray.size_append]; omega)).mono ?_
        rintro e w2 hTold
        rw [hBsl] at hTold
        clear hBsl
        rcases hTold with ⟨L2, v, hL2, rfl, hV⟩ | ⟨x, p, hx, _⟩
        · obtain rfl : L2 = L'.map (Tk.moved (4 * k)) := by have := hL2.symm.trans HM2.out; injection this
          obtain ⟨g2, cap2, rfl, hc2, hR2⟩ := row_of hV (by rw [List.length_map, ← HN.out]; exact hn0)
          rw [List.length_map, ← HN.out] at hc2 ⊢
          have HB2 := hidden hV.2
          clear hV hL2
          go_wp2_with fail
          refine wp_veil ?_
          obtain ⟨W2, hW⟩ : ∃ W, W = w2.alloc (.cells #[.int .i64 0, .int .i64 0] 26) := ⟨_, rfl⟩
          have hB2 : Below w2.heap.size w2 W2 := by rw [hW]; exact (Below.refl _ _).alloc (Nat.le_refl _) _
          have hB12 := below_then HB2.out hB2
          have HBW2 := hidden (below_then HBW1.out hB12)
          have HR12 := hidden (HR1.out.below hB12)
          have HR2 := hidden (hR2.below hB2)
          have HF2 := hidden (HF1.out.since hB12)
          rw [← hW]
          clear hW hB2 hB12 hR2 HB2 HR1 HF1
          have q0 : W2.cell? ⟨f1, 0, none⟩ = some (.int .i64 0) := HF2.out.at_ rfl
          go_wp2_with fail
          clear q0
          go_loop [11, 12] (fun c i => ∃ (j : Nat) (J : ByteArray), j ≤ n ∧ i = .int .i64 (j : Int) ∧ c = .string J ∧ J.size ≤ 601 ∧ Hid (J = ⟨(joined (L'.take j)).toArray⟩)) (fun _ i => n - (intOf i).toNat)
          case atStart => exact ⟨0, ⟨#[]⟩, Nat.zero_le _, rfl, rfl, by decide, rfl⟩
          case round =>
            obtain ⟨j, J, hj, rfl, rfl, hJs, hJ⟩ := hrel
            by_cases hlt : j < n
            · obtain ⟨t, ht⟩ : ∃ t, L'[j]? = some t := ⟨_, List.getElem?_eq_getElem (by rw [← HN.out]; exact hlt)⟩
              obtain ⟨X, hX⟩ : ∃ X : ByteArray, X = ⟨t.text.toArray⟩ := ⟨_, rfl⟩
              have hc := HR12.out.text ht
              rw [← hX] at hc
              have hnx : J ++ X ++ ⟨#[32]⟩ = ⟨(joined (L'.take (j + 1))).toArray⟩ := by
                rw [joined_next ht, hJ.out, hX]
                show ByteArray.mk (joined (L'.take j)).toArray ++ ByteArray.mk t.text.toArray ++ ByteArray.mk ([32] : List UInt8).toArray = _
                rw [ByteArray.mk_append_mk, ByteArray.mk_append_mk]
              have hns : (J ++ X ++ ⟨#[32]⟩ : ByteArray).size ≤ 601 := by
                rw [hnx]
                show (joined (L'.take (j + 1))).toArray.size ≤ 601
                rw [List.size_toArray]
                exact Nat.le_trans (joined_le L' (j + 1)) HJL.out
              have hXs : J.size + X.size + 1 ≤ 601 := by
                have := hns
                rw [ByteArray.size_append, ByteArray.size_append] at this
                exact this
              have HNX := hidden hnx
              have HNS := hidden hns
              clear hnx hns hX ht
              go_wp2_with fail
              go_round
              case rel => exact ⟨j + 1, J ++ X ++ ⟨#[32]⟩, by omega, by go_num, rfl, HNS.out, HNX⟩
              case measure => simp [intOf]; omega
            · obtain rfl : j = n := by omega
              have hJl : J.data.toList = joined L' := by
                rw [hJ.out, HN.out, List.take_length]
              go_wp2_with fail
              refine (tokens_any J W2 (HT.out.below HBW2.out) (by omega)).mono ?_
              rintro e w3 hTold
              rw [hJl] at hTold
              clear hJl hJ
              rcases hTold with ⟨L3, v, hL3, rfl, hV⟩ | ⟨x, p, hx, _⟩
              · obtain rfl : L3 = K := by have := hL3.symm.trans HK.out; injection this
                have hl3 : L3.length = j := by rw [HLIKE.out.length, ← HN.out]
                obtain ⟨g3, cap3, rfl, hc3, hR3⟩ := row_of hV (by rw [hl3]; exact hn0)
                rw [hl3] at hc3 ⊢
                have HL3 := hidden hl3
                have HB3 := hidden hV.2
                clear hV hL3 hl3
                go_wp2_with fail
                refine wp_veil ?_
                obtain ⟨W3, hW⟩ : ∃ W, W = w3.alloc (.cells #[.int .i64 0, .int .i64 0] 26) := ⟨_, rfl⟩
                obtain ⟨f3, hf⟩ : ∃ f, f = w3.heap.size := ⟨_, rfl⟩
                have hF3 : Held W3 f3 26 #[.int .i64 0, .int .i64 0] := by rw [hW, hf]; exact Held.new _ _ _
                have hB3 : Below w3.heap.size w3 W3 := by rw [hW]; exact (Below.refl _ _).alloc (Nat.le_refl _) _
                have hB23 := below_then HB3.out hB3
                have HBW3 := hidden (below_then HBW2.out hB23)
                have HR13 := hidden (HR12.out.below hB23)
                have HR23 := hidden (HR2.out.below hB23)
                have HR3 := hidden (hR3.below hB3)
                have q0 : W3.cell? ⟨f3, 0, none⟩ = some (.int .i64 0) := hF3.at_ rfl
                rw [← hW, ← hf]
                clear hW hf hF3 hB3 hB23 hR3 HB3 HR12 HR2 HF2
                go_wp2_with fail
                clear q0
                go_loopw [15] (fun i wr => ∃ a : Nat, a ≤ j ∧ i = .int .i64 (a : Int) ∧ Hid (Row wr g1 L') ∧ Hid (Row wr g2 (L'.map (Tk.moved (4 * k)))) ∧ Hid (Row wr g3 L3) ∧ Hid (Below w.heap.size w wr)) (fun i _ => j - (intOf i).toNat)
                case atStart => exact ⟨0, Nat.zero_le _, rfl, HR13, HR23, HR3, HBW3⟩
                case round =>
                  obtain ⟨a, ha, rfl, hR1, hR2, hR3, hBW⟩ := hrel
                  clear HR13 HR23 HR3 HBW3
                  by_cases hlt : a < j
                  · obtain ⟨t, ht⟩ : ∃ t, L'[a]? = some t := ⟨_, List.getElem?_eq_getElem (by rw [← HN.out]; exact hlt)⟩
                    obtain ⟨u, hu⟩ : ∃ u, L3[a]? = some u := ⟨_, List.getElem?_eq_getElem (by rw [HL3.out]; exact hlt)⟩
                    have ht2 : (L'.map (Tk.moved (4 * k)))[a]? = some (t.moved (4 * k)) := by rw [List.getElem?_map, ht]; rfl
                    obtain ⟨e1, e2, e3⟩ := HLIKE.out.at a u t hu ht
                    have hpl : t.place ≤ s.size := place_le HLL.out HLEN.out ht
                    obtain ⟨K1, hK1⟩ : ∃ x, x = t.kind := ⟨_, rfl⟩
                    obtain ⟨X1, hX1⟩ : ∃ X : ByteArray, X = ⟨t.text.toArray⟩ := ⟨_, rfl⟩
                    obtain ⟨N1, hN1⟩ : ∃ x, x = t.n := ⟨_, rfl⟩
                    obtain ⟨P1, hP1⟩ : ∃ x, x = t.place := ⟨_, rfl⟩
                    obtain ⟨Q1, hQ1⟩ : ∃ x, x = P1 + 4 * k := ⟨_, rfl⟩
                    have c0 := hR1.out.kind ht
                    have c1 := hR1.out.text ht
                    have c2 := hR1.out.num ht
                    have c3 := hR1.out.place ht
                    have d0 := hR3.out.kind hu
                    have d1 := hR3.out.text hu
                    have d2 := hR3.out.num hu
                    have b0 : wr.cell? ⟨g2, a * 4, none⟩ = some (.int .i64 (t.kind : Int)) := hR2.out.kind (t := t.moved (4 * k)) ht2
                    have b1 : wr.cell? ⟨g2, a * 4 + 1, none⟩ = some (.string ⟨t.text.toArray⟩) := hR2.out.text (t := t.moved (4 * k)) ht2
                    have b2 : wr.cell? ⟨g2, a * 4 + 2, none⟩ = some (.int .i64 (t.n : Int)) := hR2.out.num (t := t.moved (4 * k)) ht2
                    have b3 : wr.cell? ⟨g2, a * 4 + 3, none⟩ = some (.int .i64 ((t.place + 4 * k : Nat) : Int)) := hR2.out.place (t := t.moved (4 * k)) ht2
                    rw [e1, ← hK1] at d0
                    rw [e2, ← hX1] at d1
                    rw [e3, ← hN1] at d2
                    rw [← hK1] at c0 b0
                    rw [← hX1] at c1 b1
                    rw [← hN1] at c2 b2
                    rw [← hP1] at c3 b3
                    rw [← hQ1] at b3
                    rw [← hP1] at hpl
                    have hBk : (B.size : Int) = 4 * (k : Int) := by have := HBS.out; omega
                    have hi1 : (P1 : Int) + (B.size : Int) = (Q1 : Int) := by omega
                    have hwQ : IntKind.i64.wrap (Q1 : Int) = (Q1 : Int) := by rw [IntKind.wrap_i64]; omega
                    have hai : (a : Int) < (j : Int) := by omega
                    clear ht hu ht2 e1 e2 e3 hK1 hX1 hN1 hP1 hQ1 hBk
                    go_wp2_with fail
                    go_quiet (fail)
                    go_wp2_with fail
                    go_roundw
                    case rel => exact ⟨a + 1, by omega, by go_num, hR1.out.below (below_drewN _ _ _), hR2.out.below (below_drewN _ _ _), hR3.out.below (below_drewN _ _ _), hBW.out.trans (below_drewN _ _ _)⟩
                    case measure => simp [intOf]; omega
                  · obtain rfl : a = j := by omega
                    go_wp2_with fail
                    refine (works_true wr (HT.out.below hBW.out)).mono ?_
                    rintro e w4 ⟨rfl, hb⟩
                    have HB4 := hidden (below_then hBW.out hb)
                    clear hb
                    go_wp2_with fail
                    go_ret
                    exact ⟨rfl, HB4.out⟩
              · rw [HK.out] at hx; cases hx
        · rw [HM2.out] at hx; cases hx
  · rw [HLL.out] at hx; cases hx
end Go.Proofs.YtjmhmoigheomdaaDoor
