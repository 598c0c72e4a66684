/- The walks through the reference's Right and Whole. -/
import Derived.Test.YtihcepkdihmjoaaDoorTreeRefRight
namespace Go.Proofs.YtihcepkdihmjoaaDoor
open Go.RowKit
set_option linter.unusedVariables false

theorem height_lit (a : Option Addr) (c n : Nat) (l : List Nd) (w : World) (z : Int) (i : Nat) (hn : n = l.length) (hA : Ahead l) (hN : Nodes w a l) (hll : n ≤ 1000000000) (hi : i < l.length) (hz : z = (i : Int)) :
    Calls Tryd.prog 16 #[.slice a n c, .int .i64 z] w fun e w' => e = .returned (.int .i64 (hgt l i : Int)) ∧ w' = w := by
  subst hz
  exact height_any a c n l w hn hA hN hll (i + 1) i (by omega) hi
theorem Built.len {w0 w : World} {v : Value} {xs : List Int} (h : Built w0 w v xs) : ∃ a cap, v = .slice a xs.length cap ∧ Rows' .i64 w a xs.length (fun j => xs.getD j 0) := h.rows
set_option maxRecDepth 100000 in
set_option maxHeartbeats 8000000 in
theorem rright_any (a : Option Addr) (c n : Nat) (l : List Nd) (w : World) (hn : n = l.length) (hN : Nodes w a l) (hll : n ≤ 100000) :
    Calls Tryd.prog 10 #[.slice a n c] w (Tells (Rt l) w) := by
  have HNL := hidden hn
  have HN := hidden hN
  clear hn hN
  have HST := hidden (Built.start w #[] rfl)
  go_enter Tryd.func10, Tryd.ntmps10
  go_wp2_with fail
  go_loopw [3, 4] (fun t3 t4 wr => ∃ i : Nat, i ≤ n ∧ t4 = .int .i64 (i : Int) ∧ Hid (Built w wr t3 (seen l i 0)) ∧ Hid (Sofar l i 0) ∧ Hid (∀ j, j < i → fitB l (nd l j) = true)) (fun _ t4 _ => n - (intOf t4).toNat)
  case atStart => exact ⟨0, by omega, rfl, (by show Built _ _ _ _; rw [seen_zero]; exact HST.out), Sofar.start l, fun j hj => by omega⟩
  case round =>
    rename_i t3 _
    obtain ⟨i, hi, rfl, HBu, HS, HF⟩ := hrel
    by_cases hin : i < n
    · have hini : (i : Int) < (n : Int) := by omega
      have HIL : Hid (i < l.length) := by show i < l.length; rw [← HNL.out]; exact hin
      obtain ⟨lb, lo, ha, _, _⟩ := HN.out.at_ HIL.out
      subst ha
      have HOK := hidden (HN.out.2 i HIL.out)
      obtain ⟨x, hx⟩ : ∃ x, x = nd l i := ⟨_, rfl⟩
      rw [← hx] at HOK
      have HX := hidden hx
      have HKL := hidden HOK.out.len
      have hkl := HOK.out.len
      clear hx
      have H5 : ∀ w', Below w.heap.size w w' → Cells5 w' lb (lo + i * 5) x := by
        intro w' hb
        obtain ⟨b, o, e, _, h5⟩ := (HN.out.below hb).at_ HIL.out
        injection e with e
        injection e with e1 e2
        subst e1 e2
        rw [HX.out]
        exact h5
      have HH5 := hidden H5
      clear H5
      have c1 := (HH5.out wr HBu.out.2).2.1
      go_wp2_with fail
      obtain ⟨wo, hwo⟩ : ∃ wo, wo = wr := ⟨_, rfl⟩
      rw [← hwo] at HBu c1 ⊢
      clear hwo
      clear c1
      go_loopw [3, 5] (fun t3 t5 wr => ∃ k : Nat, k ≤ x.kids.length ∧ t5 = .int .i64 (k : Int) ∧ Hid (Built w wr t3 (seen l i k)) ∧ Hid (Sofar l i k)) (fun _ t5 _ => x.kids.length - (intOf t5).toNat)
      case atStart => exact ⟨0, by omega, rfl, HBu, HS⟩
      case round =>
        obtain ⟨k, hk, rfl, HBu, HS⟩ := hrel
        have c1 := (HH5.out wr HBu.out.2).2.1
        by_cases hkm : k < x.kids.length
        · have hkmi : (k : Int) < (x.kids.length : Int) := by omega
          have hkl' : Hid (k < (nd l i).kids.length) := by show k < _; rw [← HX.out]; exact hkm
          obtain ⟨kb, ko, hka, hkb, hkc⟩ := (HOK.out.rows.below HBu.out.2) (by omega)
          have hc := hkc k hkm
          simp only at hc
          rw [hka] at c1
          obtain ⟨z, hz⟩ : ∃ z, z = x.kids.getD k 0 := ⟨_, rfl⟩
          rw [← hz] at hc
          have HZ : Hid ((nd l i).kids.getD k 0 = z) := by show _ = _; rw [← HX.out, hz]
          clear hz hkc hka
          obtain ⟨ua, uc, hv, hur⟩ := HBu.out.rows
          subst hv
          have hlen : (seen l i k).length ≤ i := HS.out.len (Nat.le_of_lt HIL.out)
          have HUR := hidden hur
          clear hur
          obtain ⟨L, hL⟩ : ∃ L, L = (seen l i k).length := ⟨_, rfl⟩
          have HLL := hidden hL
          rw [← hL] at HUR hlen HBu ⊢
          clear hL
          by_cases hz0 : z < 0
          · go_wp2_with fail
            go_ret
            exact Tells.no rfl (fun h => far_not HIL.out hkl'.out (by rw [HZ.out]; omega) h.1) HBu.out.2
          · have hz0' : decide (z < 0) = false := by simpa using hz0
            by_cases hzi : (i : Int) ≤ z
            · go_wp2_with fail
              go_ret
              exact Tells.no rfl (fun h => far_not HIL.out hkl'.out (by rw [HZ.out]; omega) h.1) HBu.out.2
            · have hzi' : decide ((i : Int) ≤ z) = false := by simpa using hzi
              obtain ⟨u, rfl⟩ : ∃ u : Nat, z = u := ⟨z.toNat, by omega⟩
              go_wp2_with fail
              refine (hasInt_list _ _ _ (seen l i k) _ wr HLL.out (by omega) HUR.out).mono ?_
              rintro e w1 ⟨he, hw1⟩
              rw [hw1]; clear hw1 w1
              by_cases hmk : (u : Int) ∈ seen l i k
              · rw [decide_eq_true hmk] at he
                subst he
                have HMK := hidden hmk
                clear hmk
                go_wp2_with fail
                go_ret
                exact Tells.no rfl (fun h => dup_not HIL.out hkl'.out (by rw [HZ.out]; exact HMK.out) h.1) HBu.out.2
              · rw [decide_eq_false hmk] at he
                subst he
                have HMK := hidden hmk
                clear hmk
                have HS2 : Hid (Sofar l i (k + 1)) := HS.out.next hkl'.out (by rw [HZ.out]; omega) (by rw [HZ.out]; omega) (by rw [HZ.out]; exact HMK.out)
                have HE2 : Hid (seen l i (k + 1) = seen l i k ++ [(u : Int)]) := by show _ = _; rw [seen_next hkl'.out, HZ.out]
                go_wp2_with (at_builtin; refine wpList_push rfl (.tmp 44) (.tmp 46) rfl w _ _ _ _ rfl rfl HBu.out (by rw [← HLL.out]; omega) ?_; intro v1 w1 hb1)
                have HB1 := hidden hb1
                clear hb1
                go_wp2_with fail
                go_roundw
                case rel => exact ⟨k + 1, by omega, by go_num, (by show Built _ _ _ _; rw [HE2.out]; exact HB1.out), HS2⟩
                case measure => simp [intOf]; omega
        · obtain ⟨ek⟩ : Nonempty (k = x.kids.length) := ⟨by omega⟩
          have HEK := hidden ek
          clear ek
          have HS1 : Hid (Sofar l (i + 1) 0) := by
            refine Sofar.turn ?_ HIL.out
            rw [← HX.out, ← HEK.out]
            exact HS.out
          have HE1 : Hid (seen l i k = seen l (i + 1) 0) := by
            show _ = _
            rw [HEK.out, HX.out]
            exact seen_full HIL.out
          have hAK : ∀ j, j < (nd l i).kids.length → ∃ q : Nat, (nd l i).kids.getD j 0 = (q : Int) ∧ q < i := by
            intro j hj
            have hm : (nd l i).kids.getD j 0 ∈ (nd l i).kids := by
              rw [List.getD_eq_getElem?_getD, List.getElem?_eq_getElem hj]; exact List.getElem_mem hj
            have := HS1.out.ahead i (by omega) _ hm
            exact ⟨((nd l i).kids.getD j 0).toNat, by omega, by omega⟩
          have HIN : Hid (InL l x.kids) := by
            intro j hj
            rw [HX.out] at hj ⊢
            obtain ⟨q, h1, h2⟩ := hAK j hj
            exact ⟨q, h1, by have := HIL.out; omega⟩
          clear hAK
          obtain ⟨c0, _, c2, c3, c4⟩ := HH5.out wr HBu.out.2
          have HV : Hid (x.v = .agg #[.int .i64 x.kind, .slice x.ka x.kids.length x.kc, .int .i64 x.n, .string x.s, .int .i64 x.at_]) := rfl
          have hown := own_any x wr HOK.out.s
          rw [HV.out] at hown
          have HOWN := hidden hown
          clear hown
          go_wp2_with fail
          refine HOWN.out.mono ?_
          rintro e w1 ⟨rfl, hb1⟩
          have HB1 : Hid (Below w.heap.size w w1) := HBu.out.2.trans (hb1.mono HBu.out.2.size)
          have HBu1 := hidden (HBu.out.quiet hb1)
          clear hb1 c0 c1 c2 c3 c4
          cases ho : ownB x with
          | false =>
            have HO := hidden ho
            clear ho
            go_wp2_with fail
            go_ret
            refine Tells.no rfl (fun h => ?_) HB1.out
            have := h.2.1 i HIL.out
            rw [← HX.out] at this
            unfold fitB at this
            rw [HO.out] at this
            cases this
          | true =>
            have HO := hidden ho
            clear ho
            obtain ⟨c0, c1, c2, c3, c4⟩ := HH5.out w1 HB1.out
            have hkids := kids_any (some ⟨lb, lo, none⟩) c l x w1 (HN.out.below HB1.out) (HOK.out.below HB1.out) HIN.out (by rw [← HNL.out]; omega)
            rw [HV.out, ← HNL.out] at hkids
            have HKD := hidden hkids
            clear hkids
            go_wp2_with fail
            refine HKD.out.mono ?_
            rintro e w2 ⟨rfl, hb2⟩
            have HB2 : Hid (Below w.heap.size w w2) := HB1.out.trans (hb2.mono HB1.out.size)
            have HBu2 := hidden (HBu1.out.quiet hb2)
            clear hb2 c0 c1 c2 c3 c4
            cases hk2 : kidsB x.kind (kk l x) with
            | false =>
              have HK2 := hidden hk2
              clear hk2
              go_wp2_with fail
              go_ret
              refine Tells.no rfl (fun h => ?_) HB2.out
              have := h.2.1 i HIL.out
              rw [← HX.out] at this
              unfold fitB at this
              rw [HK2.out] at this
              simp at this
            | true =>
              have HK2 := hidden hk2
              clear hk2
              go_wp2_with fail
              go_roundw
              case rel => exact ⟨i + 1, by omega, by go_num, (by show Built _ _ _ _; rw [← HE1.out]; exact HBu2.out), HS1, (fun j hj => by
                rcases Nat.lt_or_ge j i with g | g
                · exact HF.out j g
                · rw [show j = i by omega, ← HX.out]
                  unfold fitB
                  rw [HO.out, HK2.out]
                  rfl)⟩
              case measure => simp [intOf]; omega
    · obtain rfl : i = n := by omega
      have HSN : Hid (Sofar l l.length 0) := by show Sofar _ _ _; rw [← HNL.out]; exact HS.out
      have HIFF : Hid (IsT l ↔ 0 < i ∧ (seen l i 0).length = i - 1) := by
        have h2 := ist_iff HSN.out
        rw [← HNL.out] at h2
        exact h2
      have HFT : Hid (Fits l) := fun j hj => HF.out j (by rw [HNL.out]; exact hj)
      obtain ⟨ua, uc, hv, hur⟩ := HBu.out.rows
      subst hv
      have hlen : (seen l i 0).length ≤ i := HS.out.len (by rw [← HNL.out]; exact Nat.le_refl _)
      obtain ⟨L, hL⟩ : ∃ L, L = (seen l i 0).length := ⟨_, rfl⟩
      rw [← hL] at HIFF hlen ⊢
      clear hL hur
      rcases Nat.eq_zero_or_pos i with h0 | h0
      · subst h0
        go_wp2_with fail
        go_ret
        exact Tells.no rfl (fun h => by have := HIFF.out.1 h.1; omega) HBu.out.2
      · by_cases hqq : L = i - 1
        · have hqq' : ((L : Int) == (i : Int) - 1) = true := by simp; omega
          have HT : Hid (IsT l) := HIFF.out.2 ⟨h0, hqq⟩
          have HA : Hid (Ahead l) := HT.out.2.1
          clear hqq
          go_wp2_with fail
          refine (height_lit a c i l wr _ (i - 1) HNL.out HA.out (HN.out.below HBu.out.2) (by omega) (by rw [← HNL.out]; omega) (by omega)).mono ?_
          rintro e w1 ⟨rfl, hw1⟩
          rw [hw1]; clear hw1 w1
          have HHG : Hid (hgt l (l.length - 1) = hgt l (i - 1)) := by show _ = _; rw [← HNL.out]
          obtain ⟨G, hG⟩ : ∃ G, G = hgt l (i - 1) := ⟨_, rfl⟩
          rw [← hG] at HHG ⊢
          clear hG
          by_cases hg : G ≤ 200
          · have hg' : decide ((G : Int) ≤ 200) = true := by simp; omega
            go_wp2_with fail
            go_ret
            exact Tells.yes (by first | rfl | simp [hg]) ⟨HT.out, HFT.out, by rw [HHG.out]; exact hg⟩ HBu.out.2
          · have hg' : decide ((G : Int) ≤ 200) = false := by simp; omega
            go_wp2_with fail
            go_ret
            exact Tells.no (by first | rfl | simp [hg]) (fun h => hg (by rw [← HHG.out]; exact h.2.2)) HBu.out.2
        · have hqq' : ((L : Int) == (i : Int) - 1) = false := by simp; omega
          have HQ := hidden hqq
          clear hqq
          go_wp2_with fail
          go_ret
          exact Tells.no rfl (fun h => HQ.out (HIFF.out.1 h.1).2) HBu.out.2
end Go.Proofs.YtihcepkdihmjoaaDoor
