/- The walk through TreeAlike. -/
import Derived.Test.YtihcepkdihmjoaaDoorTreeMoved
namespace Go.Proofs.YtihcepkdihmjoaaDoor
open Go.RowKit
set_option linter.unusedVariables false

set_option maxRecDepth 100000 in
set_option maxHeartbeats 20000000 in
theorem alike_walk (a : Option Addr) (n c : Nat) (l : List Nd) (b : Option Addr) (m d : Nat) (r : List Nd) (by_ : Int) (w : World) (hTb : Tabs w) (hI : IsNodes w a n c l) (hJ : IsNodes w b m d r) (hu : 0 ≤ by_ ∧ by_ ≤ 255) :
    Calls Tryd.prog 5 #[.slice a n c, .slice b m d, .int .u8 by_] w fun e w' => e = .returned (.bool true) ∧ Below w.heap.size w w' := by
  obtain ⟨hl, _, hm, hN⟩ := hI
  obtain ⟨hl2, _, hm2, hN2⟩ := hJ
  obtain ⟨hu0, hu1⟩ := hu
  have HNL : Hid (n = l.length) := hl.symm
  have HMR : Hid (m = r.length) := hl2.symm
  have HN := hidden hN
  have HN2 := hidden hN2
  have HTB := hidden hTb
  have hmx : n ≤ 9223372036854775807 := by unfold maxLen at hm; omega
  have hmy : m ≤ 9223372036854775807 := by unfold maxLen at hm2; omega
  clear hl hN hTb hm hl2 hm2 hN2
  have HST := hidden (Vals.start 36 5 w #[] rfl)
  go_enter Tryd.func5, Tryd.ntmps5
  rw [veil 10]
  go_wp2_with fail
  refine (few_any a c n l w HNL.out HN.out hmx).mono ?_
  rintro e w1 ⟨b1, rfl, hfew, hw1⟩
  rw [hw1]; clear hw1 w1
  have HF := hidden hfew
  clear hfew
  cases b1 with
  | false =>
    go_wp2_with fail
    refine (works_any w HTB.out).mono ?_
    rintro e w1 ⟨rfl, hb⟩
    have HB := hidden hb
    clear hb
    go_wp2_with fail
    go_ret
    exact ⟨rfl, HB.out⟩
  | true =>
  have HFL : Hid (Few l) := HF.out rfl
  clear HF
  go_wp2_with fail
  refine (few_any b d m r w HMR.out HN2.out hmy).mono ?_
  rintro e w1 ⟨b1, rfl, hfew, hw1⟩
  rw [hw1]; clear hw1 w1
  have HF := hidden hfew
  clear hfew
  cases b1 with
  | false =>
    go_wp2_with fail
    refine (works_any w HTB.out).mono ?_
    rintro e w1 ⟨rfl, hb⟩
    have HB := hidden hb
    clear hb
    go_wp2_with fail
    go_ret
    exact ⟨rfl, HB.out⟩
  | true =>
  have HFR : Hid (Few r) := HF.out rfl
  clear HF
  have hll : n ≤ 60 := by rw [HNL.out]; exact HFL.out.1
  have hrl : m ≤ 60 := by rw [HMR.out]; exact HFR.out.1
  go_wp2_with fail
  go_loopw [7, 8] (fun t7 t8 wr => ∃ i : Nat, i ≤ n ∧ t8 = .int .i64 (i : Int) ∧ Hid (Vals 36 5 w wr t7 i (ndCells ((l.take i).map (mv by_))))) (fun _ t8 _ => n - (intOf t8).toNat)
  case atStart => exact ⟨0, by omega, rfl, (by show Vals _ _ _ _ _ _ _; simp only [List.take_zero, List.map_nil]; exact HST.out)⟩
  case round =>
    obtain ⟨i, hi, rfl, HV⟩ := hrel
    by_cases hil : i < n
    · have hili : (i : Int) < (n : Int) := by omega
      have HIL : Hid (i < l.length) := by show i < _; rw [← HNL.out]; exact hil
      obtain ⟨lb, lo, ha, hlb, h5⟩ := (HN.out.below HV.out.below).at_ HIL.out
      subst ha
      obtain ⟨x, hx⟩ : ∃ x, x = nd l i := ⟨_, rfl⟩
      rw [← hx] at h5
      have HX := hidden hx
      clear hx
      obtain ⟨c0, c1, c2, c3, c4⟩ := h5
      rcases (show x.at_ < 0 ∨ 1000 ≤ x.at_ ∨ (0 ≤ x.at_ ∧ x.at_ < 1000) by omega) with g1 | g1 | ⟨g1, g2⟩
      · go_wp2_with fail
        obtain ⟨g, hg⟩ : ∃ g, g = wr.heap.size := ⟨_, rfl⟩
        obtain ⟨W3, hW3⟩ : ∃ W3, W3 = wr.alloc (.cells #[.int .i64 x.kind, .slice x.ka x.kids.length x.kc, .int .i64 x.n, .string x.s, .int .i64 x.at_] 36) := ⟨_, rfl⟩
        rw [← hW3, ← hg]
        have HW3H : Hid (Held W3 g 36 #[.int .i64 x.kind, .slice x.ka x.kids.length x.kc, .int .i64 x.n, .string x.s, .int .i64 x.at_]) := by rw [hW3, hg]; exact Held.new wr _ _
        have HV3 := hidden (HV.out.quiet (w' := W3) (by rw [hW3]; exact (Below.refl _ _).alloc (Nat.le_refl _) _))
        clear hW3 hg c0 c1 c2 c3 c4
        have HLH : Hid (Held W3 g 36 #[.int .i64 x.kind, .slice x.ka x.kids.length x.kc, .int .i64 x.n, .string x.s, .int .i64 x.at_]) := HW3H
        have k0 := HLH.out.at_ (j := 0) rfl
        have k1 := HLH.out.at_ (j := 1) rfl
        have k2 := HLH.out.at_ (j := 2) rfl
        have k3 := HLH.out.at_ (j := 3) rfl
        have k4 := HLH.out.at_ (j := 4) rfl
        refine wp_veil ?_
        go_wp2_with (at_builtin; refine wpList_push_vals rfl (.tmp 45) (.tmp 47) 22 36 (.agg #[.int .i64 0, .slice none 0 0, .int .i64 0, .string ⟨#[]⟩, .int .i64 0]) 5 64 Tryd.underlying22 infoN rfl (by decide) (by decide) rfl w W3 _ i _ [.int .i64 x.kind, .slice x.ka x.kids.length x.kc, .int .i64 x.n, .string x.s, .int .i64 x.at_] _ rfl rfl HV3.out (by omega) rfl rfl (by intro u hu; simp at hu; rcases hu with rfl | rfl | rfl | rfl | rfl <;> rfl) ?_; intro v1 w4 hv4)
        have HV4 := hidden hv4
        clear hv4 k0 k1 k2 k3 k4
        go_wp2_with fail
        go_roundw
        case rel =>
          refine ⟨i + 1, by omega, by go_num, ?_⟩
          show Vals _ _ _ _ _ _ _
          rw [take_map_next HIL.out, ndCells_append, ndCells_one, ← HX.out]
          have e : (mv by_ x).cs.toList = [.int .i64 x.kind, .slice x.ka x.kids.length x.kc, .int .i64 x.n, .string x.s, .int .i64 x.at_] := by
            unfold mv
            rw [if_neg (by omega)]
            rfl
          rw [e]
          exact HV4.out
        case measure => simp [intOf]; omega
      · have g0 : 0 ≤ x.at_ := by omega
        go_wp2_with fail
        obtain ⟨g, hg⟩ : ∃ g, g = wr.heap.size := ⟨_, rfl⟩
        obtain ⟨W3, hW3⟩ : ∃ W3, W3 = wr.alloc (.cells #[.int .i64 x.kind, .slice x.ka x.kids.length x.kc, .int .i64 x.n, .string x.s, .int .i64 x.at_] 36) := ⟨_, rfl⟩
        rw [← hW3, ← hg]
        have HW3H : Hid (Held W3 g 36 #[.int .i64 x.kind, .slice x.ka x.kids.length x.kc, .int .i64 x.n, .string x.s, .int .i64 x.at_]) := by rw [hW3, hg]; exact Held.new wr _ _
        have HV3 := hidden (HV.out.quiet (w' := W3) (by rw [hW3]; exact (Below.refl _ _).alloc (Nat.le_refl _) _))
        clear hW3 hg c0 c1 c2 c3 c4
        have HLH : Hid (Held W3 g 36 #[.int .i64 x.kind, .slice x.ka x.kids.length x.kc, .int .i64 x.n, .string x.s, .int .i64 x.at_]) := HW3H
        have k0 := HLH.out.at_ (j := 0) rfl
        have k1 := HLH.out.at_ (j := 1) rfl
        have k2 := HLH.out.at_ (j := 2) rfl
        have k3 := HLH.out.at_ (j := 3) rfl
        have k4 := HLH.out.at_ (j := 4) rfl
        refine wp_veil ?_
        go_wp2_with (at_builtin; refine wpList_push_vals rfl (.tmp 45) (.tmp 47) 22 36 (.agg #[.int .i64 0, .slice none 0 0, .int .i64 0, .string ⟨#[]⟩, .int .i64 0]) 5 64 Tryd.underlying22 infoN rfl (by decide) (by decide) rfl w W3 _ i _ [.int .i64 x.kind, .slice x.ka x.kids.length x.kc, .int .i64 x.n, .string x.s, .int .i64 x.at_] _ rfl rfl HV3.out (by omega) rfl rfl (by intro u hu; simp at hu; rcases hu with rfl | rfl | rfl | rfl | rfl <;> rfl) ?_; intro v1 w4 hv4)
        have HV4 := hidden hv4
        clear hv4 k0 k1 k2 k3 k4
        go_wp2_with fail
        go_roundw
        case rel =>
          refine ⟨i + 1, by omega, by go_num, ?_⟩
          show Vals _ _ _ _ _ _ _
          rw [take_map_next HIL.out, ndCells_append, ndCells_one, ← HX.out]
          have e : (mv by_ x).cs.toList = [.int .i64 x.kind, .slice x.ka x.kids.length x.kc, .int .i64 x.n, .string x.s, .int .i64 x.at_] := by
            unfold mv
            rw [if_neg (by omega)]
            rfl
          rw [e]
          exact HV4.out
        case measure => simp [intOf]; omega
      · have HG : Hid (0 ≤ x.at_ ∧ x.at_ < 1000) := ⟨g1, g2⟩
        go_wp2_with fail
        obtain ⟨g, hg⟩ : ∃ g, g = wr.heap.size := ⟨_, rfl⟩
        rw [← hg]
        have HW3H0 : Hid (Held (wr.alloc (.cells #[.int .i64 x.kind, .slice x.ka x.kids.length x.kc, .int .i64 x.n, .string x.s, .int .i64 (x.at_ + by_)] 36)) g 36 #[.int .i64 x.kind, .slice x.ka x.kids.length x.kc, .int .i64 x.n, .string x.s, .int .i64 (x.at_ + by_)]) := by rw [hg]; exact Held.new wr _ _
        obtain ⟨W3, hW3⟩ : ∃ W3, W3 = wr.alloc (.cells #[.int .i64 x.kind, .slice x.ka x.kids.length x.kc, .int .i64 x.n, .string x.s, .int .i64 (x.at_ + by_)] 36) := ⟨_, rfl⟩
        rw [← hW3]
        have HW3H : Hid (Held W3 g 36 #[.int .i64 x.kind, .slice x.ka x.kids.length x.kc, .int .i64 x.n, .string x.s, .int .i64 (x.at_ + by_)]) := by rw [hW3]; exact HW3H0.out
        have HV3 := hidden (HV.out.quiet (w' := W3) (by rw [hW3]; exact (Below.refl _ _).alloc (Nat.le_refl _) _))
        clear hW3 hg c0 c1 c2 c3 c4 HW3H0
        have HLH : Hid (Held W3 g 36 #[.int .i64 x.kind, .slice x.ka x.kids.length x.kc, .int .i64 x.n, .string x.s, .int .i64 (x.at_ + by_)]) := HW3H
        have k0 := HLH.out.at_ (j := 0) rfl
        have k1 := HLH.out.at_ (j := 1) rfl
        have k2 := HLH.out.at_ (j := 2) rfl
        have k3 := HLH.out.at_ (j := 3) rfl
        have k4 := HLH.out.at_ (j := 4) rfl
        refine wp_veil ?_
        go_wp2_with (at_builtin; refine wpList_push_vals rfl (.tmp 45) (.tmp 47) 22 36 (.agg #[.int .i64 0, .slice none 0 0, .int .i64 0, .string ⟨#[]⟩, .int .i64 0]) 5 64 Tryd.underlying22 infoN rfl (by decide) (by decide) rfl w W3 _ i _ [.int .i64 x.kind, .slice x.ka x.kids.length x.kc, .int .i64 x.n, .string x.s, .int .i64 (x.at_ + by_)] _ rfl rfl HV3.out (by omega) rfl rfl (by intro u hu; simp at hu; rcases hu with rfl | rfl | rfl | rfl | rfl <;> rfl) ?_; intro v1 w4 hv4)
        have HV4 := hidden hv4
        clear hv4 k0 k1 k2 k3 k4
        go_wp2_with fail
        go_roundw
        case rel =>
          refine ⟨i + 1, by omega, by go_num, ?_⟩
          show Vals _ _ _ _ _ _ _
          rw [take_map_next HIL.out, ndCells_append, ndCells_one, ← HX.out]
          have e : (mv by_ x).cs.toList = [.int .i64 x.kind, .slice x.ka x.kids.length x.kc, .int .i64 x.n, .string x.s, .int .i64 (x.at_ + by_)] := by
            unfold mv
            rw [if_pos HG.out]
            rfl
          rw [e]
          exact HV4.out
        case measure => simp [intOf]; omega
    · obtain ⟨ei⟩ : Nonempty (i = l.length) := ⟨by rw [← HNL.out]; omega⟩
      have HBr := hidden HV.out.below
      obtain ⟨ma, mc, hv, hmc, hNM⟩ := nodes_of_vals (L := (l.take i).map (mv by_)) HV.out (by simp; omega) (fun j hj => by
        rw [ei, List.take_length] at hj ⊢
        have hj' : j < l.length := by simpa using hj
        rw [nd_map hj']
        exact mv_ok ((HN.out.below HBr.out).2 j hj'))
      obtain ⟨en⟩ : Nonempty (i = n) := ⟨by omega⟩
      subst hv
      rw [ei, List.take_length] at hNM
      have HNM := hidden hNM
      have HNN : Hid (i = n) := en
      have hin : i ≤ 60 := by omega
      clear hNM en HV
      have HMAL := hidden (mv_al by_ l)
      have HMRT : Hid (Rt l ↔ Rt (l.map (mv by_))) := ⟨HMAL.out.rt (mv_rt hu0 l), HMAL.out.symm.rt (fun j => (mv_rt hu0 l j).symm)⟩
      obtain ⟨M, hM⟩ : ∃ M, M = l.map (mv by_) := ⟨_, rfl⟩
      rw [← hM] at HNM HMAL HMRT
      have HEI := hidden ei
      have HML : Hid (i = M.length) := by show _ = _; rw [HEI.out, hM, List.length_map]
      clear hM ei
      go_wp2_with fail
      refine (alike_any a b c d n m l r wr HNL.out HMR.out (HN.out.below HBr.out) (HN2.out.below HBr.out) (by omega) (by omega)).mono ?_
      rintro e w2 ⟨b2, rfl, hiff2, hb2⟩
      have HB2 : Hid (Below w.heap.size w w2) := HBr.out.trans (hb2.mono HBr.out.size)
      have HM2 := hidden (HNM.out.below hb2)
      have HI2 := hidden hiff2
      clear hb2 hiff2
      go_wp2_with fail
      refine (sameNodes_any a b c d n m l r w2 HNL.out HMR.out (HN.out.below HB2.out) (HN2.out.below HB2.out) (by omega) (by omega) (fun j hj => by have := few_kids HFL.out j hj; omega) (fun j hj => by have := few_kids HFR.out j hj; omega)).mono ?_
      rintro e w3 ⟨b3, rfl, hiff3, hb3⟩
      obtain rfl : b3 = b2 := by
        have := HI2.out
        cases b2 <;> cases b3 <;> simp_all
      have HB3 : Hid (Below w.heap.size w w3) := HB2.out.trans (hb3.mono HB2.out.size)
      have HM3 := hidden (HM2.out.below hb3)
      clear hb3 hiff3
      have hbb : (b3 == b3) = true := by cases b3 <;> rfl
      go_wp2_with fail
      refine (alike_any a ma c mc n i l M w3 HNL.out HML.out (HN.out.below HB3.out) HM3.out (by omega) (by omega)).mono ?_
      rintro e w4 ⟨b4, rfl, hiff4, hb4⟩
      obtain rfl : b4 = true := hiff4.2 HMAL.out
      have HB4 : Hid (Below w.heap.size w w4) := HB3.out.trans (hb4.mono HB3.out.size)
      have HM4 := hidden (HM3.out.below hb4)
      clear hb4 hiff4
      go_wp2_with fail
      refine (text_any a c n l w4 HNL.out (HTB.out.below HB4.out) (HN.out.below HB4.out) (by omega)).mono ?_
      intro e w5 hs5
      obtain ⟨X, rfl, hX, hb5⟩ := hs5.spk
      have HB5 : Hid (Below w.heap.size w w5) := HB4.out.trans (hb5.mono HB4.out.size)
      have HM5 := hidden (HM4.out.below hb5)
      have HXX := hidden hX
      clear hb5 hX hs5
      unfold txt
      go_wp2_with fail
      refine (text_any ma mc i M w5 HML.out (HTB.out.below HB5.out) HM5.out (by omega)).mono ?_
      intro e w6 hs6
      obtain ⟨Y, he6, hY, hb6⟩ := hs6.spk
      obtain rfl : X = Y := Spk.same HMAL.out HMRT.out HXX.out hY
      subst he6
      have HB6 : Hid (Below w.heap.size w w6) := HB5.out.trans (hb6.mono HB5.out.size)
      clear hb6 hY hs6
      unfold txt
      cases b3 with
      | false =>
        go_wp2_with fail
        refine (works_any w6 (HTB.out.below HB6.out)).mono ?_
        rintro e w7 ⟨rfl, hb7⟩
        have HB7 : Hid (Below w.heap.size w w7) := HB6.out.trans (hb7.mono HB6.out.size)
        clear hb7
        go_wp2_with fail
        go_ret
        exact ⟨rfl, HB7.out⟩
      | true =>
      have HAL : Hid (Al l r) := HI2.out.1 rfl
      clear HI2
      go_wp2_with fail
      refine (right_len a c n l w6 HNL.out (HTB.out.below HB6.out) (HN.out.below HB6.out) (by omega)).mono ?_
      rintro e w7 ⟨b7, rfl, hiff7, hb7⟩
      have HB7 : Hid (Below w.heap.size w w7) := HB6.out.trans (hb7.mono HB6.out.size)
      have HI7 := hidden hiff7
      clear hb7 hiff7
      cases b7 with
      | false =>
        go_wp2_with fail
        refine (works_any w7 (HTB.out.below HB7.out)).mono ?_
        rintro e w8 ⟨rfl, hb8⟩
        have HB8 : Hid (Below w.heap.size w w8) := HB7.out.trans (hb8.mono HB7.out.size)
        clear hb8
        go_wp2_with fail
        go_ret
        exact ⟨rfl, HB8.out⟩
      | true =>
      have HRL : Hid (Rt l) := HI7.out.1 rfl
      clear HI7
      go_wp2_with fail
      refine (right_len b d m r w7 HMR.out (HTB.out.below HB7.out) (HN2.out.below HB7.out) (by omega)).mono ?_
      rintro e w8 ⟨b8, rfl, hiff8, hb8⟩
      have HB8 : Hid (Below w.heap.size w w8) := HB7.out.trans (hb8.mono HB7.out.size)
      have HI8 := hidden hiff8
      clear hb8 hiff8
      cases b8 with
      | false =>
        go_wp2_with fail
        refine (works_any w8 (HTB.out.below HB8.out)).mono ?_
        rintro e w9 ⟨rfl, hb9⟩
        have HB9 : Hid (Below w.heap.size w w9) := HB8.out.trans (hb9.mono HB8.out.size)
        clear hb9
        go_wp2_with fail
        go_ret
        exact ⟨rfl, HB9.out⟩
      | true =>
      have HRR : Hid (Rt r) := HI8.out.1 rfl
      clear HI8
      go_wp2_with fail
      refine (text_any a c n l w8 HNL.out (HTB.out.below HB8.out) (HN.out.below HB8.out) (by omega)).mono ?_
      intro e w9 hs9
      obtain ⟨X9, rfl, hX9, hb9⟩ := hs9.spk
      have HB9 : Hid (Below w.heap.size w w9) := HB8.out.trans (hb9.mono HB8.out.size)
      have HX9 := hidden hX9
      clear hb9 hX9 hs9
      unfold txt
      go_wp2_with fail
      refine (text_any b d m r w9 HMR.out (HTB.out.below HB9.out) (HN2.out.below HB9.out) (by omega)).mono ?_
      intro e w10 hs10
      obtain ⟨Y, he10, hY, hb10⟩ := hs10.spk
      obtain rfl : X9 = Y := Spk.same HAL.out ⟨fun _ => HRR.out, fun _ => HRL.out⟩ HX9.out hY
      subst he10
      have HB10 : Hid (Below w.heap.size w w10) := HB9.out.trans (hb10.mono HB9.out.size)
      clear hb10 hY hs10
      unfold txt
      go_wp2_with fail
      refine (works_any w10 (HTB.out.below HB10.out)).mono ?_
      rintro e w11 ⟨rfl, hb11⟩
      have HB11 : Hid (Below w.heap.size w w11) := HB10.out.trans (hb11.mono HB10.out.size)
      clear hb11
      go_wp2_with fail
      go_ret
      exact ⟨rfl, HB11.out⟩
end Go.Proofs.YtihcepkdihmjoaaDoor
