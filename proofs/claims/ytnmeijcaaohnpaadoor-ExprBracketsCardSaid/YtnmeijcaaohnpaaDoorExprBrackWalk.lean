/- The walk through ExprBrackets. -/
import Derived.Test.YtnmeijcaaohnpaaDoorExprWorks
import Derived.Test.YtnmeijcaaohnpaaDoorExprBrack
namespace Go.Proofs.YtnmeijcaaohnpaaDoor
open Go.RowKit
set_option linter.unusedVariables false

theorem parsed_len {L : List Tk} {o : Out} {r : List Nd} (hr : Reads (.chain 0) 0 ⟨L, [], []⟩ o) (hp : parsed o = .ok r) : r.length ≤ L.length := by
  cases o with
  | error f => cases hp
  | ok y =>
    obtain ⟨ps, s'⟩ := y
    have hsl := hr.slack.1
    have he : r = s'.l := by
      have hp' : (if s'.tok.kind = 0 then Except.ok s'.l else Except.error (8, s'.tok.place)) = (Except.ok r : Except Flt (List Nd)) := hp
      split at hp'
      · injection hp' with hp'; exact hp'.symm
      · cases hp'
    rw [he]
    have e0 : ([] : List Nd).length = 0 := rfl
    simp only [e0] at hsl
    omega
theorem nd_map2 (f : Nd → Nd) {l : List Nd} {i : Nat} (hi : i < l.length) : nd (l.map f) i = f (nd l i) := by
  unfold nd
  rw [List.getD_eq_getElem?_getD, List.getD_eq_getElem?_getD, List.getElem?_map, List.getElem?_eq_getElem hi]
  rfl
theorem al_of {a b r r' : List Nd} (ha : a.map bare = r) (hb : b.map bare = r') (h : r.map ncore = r'.map ncore) : Al a b := by
  have hlen : a.length = b.length := by
    have := congrArg List.length h
    rw [← ha, ← hb, List.length_map, List.length_map, List.length_map, List.length_map] at this
    exact this
  refine ⟨hlen, fun j hj => ?_⟩
  have h1 : nd ((a.map bare).map ncore) j = nd ((b.map bare).map ncore) j := by rw [ha, hb, h]
  rw [nd_map2 ncore (by rw [List.length_map]; exact hj), nd_map2 ncore (by rw [List.length_map]; omega), nd_map2 bare hj, nd_map2 bare (by omega)] at h1
  have e1 : (nd a j).kind = (nd b j).kind := by have := congrArg Nd.kind h1; exact this
  have e2 : (nd a j).n = (nd b j).n := by have := congrArg Nd.n h1; exact this
  have e3 : (nd a j).s = (nd b j).s := by have := congrArg Nd.s h1; exact this
  have e4 : (nd a j).kids = (nd b j).kids := by have := congrArg Nd.kids h1; exact this
  exact ⟨e1, e2, by unfold Nd.t; rw [e3], e4⟩
theorem few_of {a r : List Nd} (ha : a.map bare = r) (h : ∀ x ∈ r, x.kids.length ≤ 8) : ∀ i, i < a.length → (nd a i).kids.length ≤ 100000 := by
  intro i hi
  have hm : bare (nd a i) ∈ r := by
    rw [← ha, ← nd_map2 bare hi]
    unfold nd
    rw [List.getD_eq_getElem?_getD, List.getElem?_eq_getElem (by rw [List.length_map]; exact hi)]
    exact List.getElem_mem _
  have h8 := h _ hm
  have h9 : (bare (nd a i)).kids.length = (nd a i).kids.length := rfl
  omega
theorem bText_next (i : Nat) (l : List UInt8) : bText (i + 1) l = [40] ++ bText i l ++ [41] := by
  unfold bText
  rw [rep_succ 40, show rep 41 (i + 1) = rep 41 i ++ [41] by have := rep_snoc 41 i []; rw [List.append_nil] at this; exact this]
  simp
theorem cat1 {s : ByteArray} {l : List UInt8} (h : l = s.data.toList) : (s ++ ⟨#[10]⟩ : ByteArray).data.toList = bText 0 l := by
  rw [ByteArray.data_append, Array.toList_append, ← h]; rfl
theorem cat3 {X : ByteArray} {l : List UInt8} (h : X.data.toList = l) (a b : UInt8) : ((⟨#[a]⟩ : ByteArray) ++ X ++ (⟨#[b]⟩ : ByteArray)).data.toList = [a] ++ l ++ [b] := by
  rw [ByteArray.data_append, Array.toList_append, ByteArray.data_append, Array.toList_append, h]
set_option maxRecDepth 100000 in
set_option maxHeartbeats 4000000 in
theorem brack_any (s : ByteArray) (bn : Nat) (w : World) (hX : XTabs w) (hbn : bn < 256) :
    Calls Tryd.prog 4 #[.string s, .int .u8 (bn : Int)] w fun e w' => e = .returned (.bool true) ∧ Below w.heap.size w w' := by
  have HX := hidden hX
  have HX3 := hidden hX.size
  clear hX
  have HWK : Hid (∀ w' : World, Below w.heap.size w w' → Calls Tryd.prog 6 #[] w' fun e w'' => e = .returned (.bool true) ∧ Below w.heap.size w w'') := by
    intro w' hb
    refine (works_any w' (HX.out.keep (fun k hk => hb.block k (by have := HX3.out; omega)))).mono ?_
    rintro e w'' ⟨h1, h2⟩
    exact ⟨h1, below_next hb h2⟩
  obtain ⟨m, hm⟩ : ∃ m, m = bn % 5 := ⟨_, rfl⟩
  have hm4 : m ≤ 4 := by omega
  have hm5 : (bn : Int) % 5 = (m : Int) := by omega
  clear hm
  go_enter Tryd.func4, Tryd.ntmps4
  by_cases hlong : 150 < s.size
  · have hli : (150 : Int) < (s.size : Int) := by omega
    go_wp2_with fail
    refine (HWK.out w (Below.refl _ _)).mono ?_
    rintro e w1 ⟨rfl, hb1⟩
    have HB1 := hidden hb1
    clear hb1
    go_wp2_with fail
    go_ret
    exact ⟨rfl, HB1.out⟩
  have hli : ¬ (150 : Int) < (s.size : Int) := by omega
  rw [veil 4, veil 6, veil 7, veil 12, veil 13, veil 14]
  go_wp2_with fail
  refine (rtokens_any s w (by omega)).mono ?_
  rintro e w1 (⟨L, v1, hT, rfl, hV1⟩ | ⟨x, p, hT, rfl, hb1⟩)
  · have HT := hidden hT
    have HSL : Hid (s.data.toList.length ≤ 150) := by show s.data.toList.length ≤ 150; rw [length_of]; omega
    have HSZ : Hid (s.data.toList.length ≤ 65536) := by show s.data.toList.length ≤ 65536; rw [length_of]; omega
    have HV1 := hidden hV1
    obtain ⟨l, hl⟩ : ∃ l, l = s.data.toList := ⟨_, rfl⟩
    have HL := hidden hl
    clear hT hV1 hl
    go_wp2_with fail
    refine wp_veil ?_
    obtain ⟨W1, hW1⟩ : ∃ W1, W1 = w1.alloc (.cells #[.int .i64 0, .int .i64 0] 26) := ⟨_, rfl⟩
    obtain ⟨F, hF⟩ : ∃ F, F = w1.heap.size := ⟨_, rfl⟩
    have HF : Hid (Held W1 F 26 #[.int .i64 0, .int .i64 0]) := by rw [hW1, hF]; exact Held.new _ _ _
    have HVW := hidden (HV1.out.quiet ((Below.refl _ _).alloc (Nat.le_refl w1.heap.size) (.cells #[.int .i64 0, .int .i64 0] 26)))
    rw [← hW1] at HVW
    rw [← hW1, ← hF]
    clear hW1 hF HV1
    have c0 : W1.cell? ⟨F, 0, none⟩ = some (.int .i64 0) := HF.out.at_ rfl
    go_wp2_with fail
    clear c0
    refine wp_veil ?_
    have HX1 : Hid (XTabs W1) := HX.out.keep (fun k hk => HVW.out.2.block k (by have := HX3.out; omega))
    have HPT := hidden (parse_told HT.out HSZ.out HVW.out HX1.out)
    have HB1 : Hid (Below w.heap.size w W1) := HVW.out.2
    clear HVW HX1 HF
    go_wp2_with fail
    refine HPT.out.mono ?_
    rintro e w2 ⟨hb2, o, hr, hcase⟩
    have HB2 := hidden (below_next HB1.out hb2)
    have HR := hidden hr
    clear hb2 HPT HB1 hr
    have HLOOP : Hid (∃ L', T (bText m l) 0 = .ok L') := by
      obtain ⟨M, N, _, _, _, h⟩ := bText_T (by rw [← HL.out] at HT; exact HT.out) m
      exact ⟨_, h⟩
    obtain ⟨L', hL'⟩ := HLOOP.out
    have HL' := hidden hL'
    clear hL' HLOOP
    rcases hcase with ⟨r, l1, a1, k1, hp, rfl, hN, hl1⟩ | ⟨x, q, hp, hx, rfl⟩
    · have hA := parsed_ok (T_isTk HT.out) (T_len HT.out).1 HR.out hp
      obtain ⟨o', r', hr', hp', hcore⟩ := brack_yes (k := m) (T_isTk HT.out) (by rw [← HL.out] at HT; exact HT.out) (by rw [HL.out]; exact HSL.out) hm4 HL'.out HR.out hp
      have HR' := hidden hr'
      have HP' := hidden hp'
      have HCORE := hidden hcore
      have HFEW := hidden (few_of hl1 hA.few)
      have HLEN : Hid (l1.length ≤ 151) := by
        show l1.length ≤ 151
        have h1 := parsed_len HR.out hp
        have h2 := (T_len HT.out).2
        have h3 := congrArg List.length hl1
        rw [List.length_map] at h3
        have := HSL.out
        omega
      have HN1 := hidden hN
      have HL1 := hidden hl1
      obtain ⟨n1, hn1⟩ : ∃ n1, n1 = l1.length := ⟨_, rfl⟩
      rw [← hn1]
      have HN1L := hidden hn1
      clear hp hN hl1 hA hr' hp' hcore hn1
      go_wp2_with fail
      refine wp_veil ?_
      obtain ⟨W2, hW2⟩ : ∃ W2, W2 = w2.alloc (.cells #[.int .i64 0, .int .i64 0] 26) := ⟨_, rfl⟩
      obtain ⟨F2, hF2⟩ : ∃ F2, F2 = w2.heap.size := ⟨_, rfl⟩
      have HF2 : Hid (Held W2 F2 26 #[.int .i64 0, .int .i64 0]) := by rw [hW2, hF2]; exact Held.new _ _ _
      have hbn2 : Below w2.heap.size w2 W2 := by rw [hW2]; exact (Below.refl _ _).alloc (Nat.le_refl _) _
      replace HB2 := hidden (below_next HB2.out hbn2)
      replace HN1 := hidden (HN1.out.below hbn2)
      rw [← hW2, ← hF2]
      clear hW2 hF2 hbn2
      go_wp2_with fail
      go_loop [9, 10] (fun a x => ∃ (i : Nat) (X : ByteArray), i ≤ m ∧ a = .string X ∧ x = .int .i64 (i : Int) ∧ X.size ≤ s.size + 1 + 2 * i ∧ Hid (X.data.toList = bText i l)) (fun _ x => m - (intOf x).toNat)
      case atStart => exact ⟨0, s ++ ⟨#[10]⟩, by omega, rfl, rfl, by (rw [ByteArray.size_append]; show s.size + 1 ≤ _; omega), hidden (cat1 HL.out)⟩
      case round =>
        obtain ⟨i, X, hi, rfl, rfl, hXs, hS⟩ := hrel
        by_cases hlt : i < m
        · have hli2 : (i : Int) < (m : Int) := by omega
          go_wp2_with fail
          go_round
          case rel => exact ⟨i + 1, ⟨#[40]⟩ ++ X ++ ⟨#[41]⟩, by omega, rfl, by go_num, by (rw [ByteArray.size_append, ByteArray.size_append]; show 1 + X.size + 1 ≤ _; omega), hidden ((cat3 hS.out 40 41).trans (bText_next i l).symm)⟩
          case measure => simp [intOf]; omega
        · have HI : Hid (i = m) := by show i = m; omega
          have hli2 : ¬ (i : Int) < (m : Int) := by omega
          have HTT : Hid (T X.data.toList 0 = .ok L') := by show _ = _; rw [hS.out, HI.out]; exact HL'.out
          have HXZ : Hid (X.data.toList.length ≤ 65536) := by show X.data.toList.length ≤ 65536; rw [length_of]; omega
          go_wp2_with fail
          refine wp_veil ?_
          go_wp2_with fail
          refine (tokens_ok X W2 (by omega) HTT.out).mono ?_
          rintro e w3 ⟨v3, rfl, hV3⟩
          have HV3 := hidden hV3
          clear hV3
          go_wp2_with fail
          refine wp_veil ?_
          obtain ⟨W3, hW3⟩ : ∃ W3, W3 = w3.alloc (.cells #[.int .i64 0, .int .i64 0] 26) := ⟨_, rfl⟩
          have HVX := hidden (HV3.out.quiet ((Below.refl _ _).alloc (Nat.le_refl w3.heap.size) (.cells #[.int .i64 0, .int .i64 0] 26)))
          rw [← hW3] at HVX ⊢
          clear hW3 HV3
          replace HB2 := hidden (below_next HB2.out HVX.out.2)
          replace HN1 := hidden (HN1.out.below HVX.out.2)
          replace HF2 := hidden (HF2.out.since HVX.out.2)
          have HX3' : Hid (XTabs W3) := HX.out.keep (fun j hj => HB2.out.block j (by have := HX3.out; omega))
          have HPY := hidden (parse_yes HTT.out HXZ.out HVX.out HX3'.out HR'.out HP'.out)
          clear HVX HX3'
          go_wp2_with fail
          refine HPY.out.mono ?_
          rintro e w4 ⟨hb4, l2, a2, k2, rfl, hN2, hl2⟩
          replace HB2 := hidden (below_next HB2.out hb4)
          replace HN1 := hidden (HN1.out.below hb4)
          replace HF2 := hidden (HF2.out.since hb4)
          have HN2 := hidden hN2
          have HAL : Hid (Al l1 l2) := al_of HL1.out hl2 HCORE.out
          have hA2 := parsed_ok (T_isTk HTT.out) (T_len HTT.out).1 HR'.out HP'.out
          have HFEW2 := hidden (few_of hl2 hA2.few)
          obtain ⟨n2, hn2⟩ : ∃ n2, n2 = l2.length := ⟨_, rfl⟩
          rw [← hn2]
          have HN2L := hidden hn2
          clear hb4 hN2 hl2 hA2 HPY hn2
          go_wp2_with fail
          refine wp_veil ?_
          obtain ⟨W4, hW4⟩ : ∃ W4, W4 = w4.alloc (.cells #[.int .i64 0, .int .i64 0] 26) := ⟨_, rfl⟩
          obtain ⟨F4, hF4⟩ : ∃ F4, F4 = w4.heap.size := ⟨_, rfl⟩
          have HF4 : Hid (Held W4 F4 26 #[.int .i64 0, .int .i64 0]) := by rw [hW4, hF4]; exact Held.new _ _ _
          have hbn4 : Below w4.heap.size w4 W4 := by rw [hW4]; exact (Below.refl _ _).alloc (Nat.le_refl _) _
          replace HB2 := hidden (below_next HB2.out hbn4)
          replace HN1 := hidden (HN1.out.below hbn4)
          replace HN2 := hidden (HN2.out.below hbn4)
          replace HF2 := hidden (HF2.out.since hbn4)
          rw [← hW4, ← hF4]
          clear hW4 hF4 hbn4
          have c0 : W4.cell? ⟨F2, 0, none⟩ = some (.int .i64 0) := HF2.out.at_ rfl
          have d0 : W4.cell? ⟨F4, 0, none⟩ = some (.int .i64 0) := HF4.out.at_ rfl
          have d1 : W4.cell? ⟨F4, 1, none⟩ = some (.int .i64 0) := HF4.out.at_ rfl
          go_wp2_with fail
          refine (sameNodes_any a1 a2 k1 k2 n1 n2 l1 l2 W4 HN1L.out HN2L.out HN1.out HN2.out (by have := HLEN.out; have := HN1L.out; omega) (by have := HLEN.out; have := HN2L.out; have := HAL.out.1; omega) HFEW.out HFEW2.out).mono ?_
          rintro e w5 ⟨b, rfl, hiff, hb5⟩
          obtain rfl : b = true := hiff.2 HAL.out
          replace HB2 := hidden (below_next HB2.out hb5)
          clear hiff hb5 c0 d0 d1
          go_wp2_with fail
          refine (HWK.out w5 HB2.out).mono ?_
          rintro e w6 ⟨rfl, hb6⟩
          have HB6 := hidden hb6
          clear hb6
          go_wp2_with fail
          go_ret
          exact ⟨rfl, HB6.out⟩
    · have hx0 : ((x : Int) == 0) = false := by simp; omega
      have HP := hidden hp
      clear hp hx
      go_wp2_with fail
      refine wp_veil ?_
      obtain ⟨W2, hW2⟩ : ∃ W2, W2 = w2.alloc (.cells #[.int .i64 (x : Int), .int .i64 (q : Int)] 26) := ⟨_, rfl⟩
      obtain ⟨F2, hF2⟩ : ∃ F2, F2 = w2.heap.size := ⟨_, rfl⟩
      have HF2 : Hid (Held W2 F2 26 #[.int .i64 (x : Int), .int .i64 (q : Int)]) := by rw [hW2, hF2]; exact Held.new _ _ _
      have hbn2 : Below w2.heap.size w2 W2 := by rw [hW2]; exact (Below.refl _ _).alloc (Nat.le_refl _) _
      replace HB2 := hidden (below_next HB2.out hbn2)
      rw [← hW2, ← hF2]
      clear hW2 hF2 hbn2
      go_wp2_with fail
      go_loop [9, 10] (fun a x => ∃ (i : Nat) (X : ByteArray), i ≤ m ∧ a = .string X ∧ x = .int .i64 (i : Int) ∧ X.size ≤ s.size + 1 + 2 * i ∧ Hid (X.data.toList = bText i l)) (fun _ x => m - (intOf x).toNat)
      case atStart => exact ⟨0, s ++ ⟨#[10]⟩, by omega, rfl, rfl, by (rw [ByteArray.size_append]; show s.size + 1 ≤ _; omega), hidden (cat1 HL.out)⟩
      case round =>
        obtain ⟨i, X, hi, rfl, rfl, hXs, hS⟩ := hrel
        by_cases hlt : i < m
        · have hli2 : (i : Int) < (m : Int) := by omega
          go_wp2_with fail
          go_round
          case rel => exact ⟨i + 1, ⟨#[40]⟩ ++ X ++ ⟨#[41]⟩, by omega, rfl, by go_num, by (rw [ByteArray.size_append, ByteArray.size_append]; show 1 + X.size + 1 ≤ _; omega), hidden ((cat3 hS.out 40 41).trans (bText_next i l).symm)⟩
          case measure => simp [intOf]; omega
        · have HI : Hid (i = m) := by show i = m; omega
          have hli2 : ¬ (i : Int) < (m : Int) := by omega
          have HTT : Hid (T X.data.toList 0 = .ok L') := by show _ = _; rw [hS.out, HI.out]; exact HL'.out
          have HXZ : Hid (X.data.toList.length ≤ 65536) := by show X.data.toList.length ≤ 65536; rw [length_of]; omega
          go_wp2_with fail
          refine wp_veil ?_
          go_wp2_with fail
          refine (tokens_ok X W2 (by omega) HTT.out).mono ?_
          rintro e w3 ⟨v3, rfl, hV3⟩
          have HV3 := hidden hV3
          clear hV3
          go_wp2_with fail
          refine wp_veil ?_
          obtain ⟨W3, hW3⟩ : ∃ W3, W3 = w3.alloc (.cells #[.int .i64 0, .int .i64 0] 26) := ⟨_, rfl⟩
          have HVX := hidden (HV3.out.quiet ((Below.refl _ _).alloc (Nat.le_refl w3.heap.size) (.cells #[.int .i64 0, .int .i64 0] 26)))
          rw [← hW3] at HVX ⊢
          clear hW3 HV3
          replace HB2 := hidden (below_next HB2.out HVX.out.2)
          replace HF2 := hidden (HF2.out.since HVX.out.2)
          have HX3' : Hid (XTabs W3) := HX.out.keep (fun j hj => HB2.out.block j (by have := HX3.out; omega))
          have HPY := hidden (parse_told HTT.out HXZ.out HVX.out HX3'.out)
          clear HVX HX3'
          go_wp2_with fail
          refine HPY.out.mono ?_
          rintro e w4 ⟨hb4, o', hr', hcase⟩
          replace HB2 := hidden (below_next HB2.out hb4)
          replace HF2 := hidden (HF2.out.since hb4)
          have hend : ∃ (V : Value) (X0 Q0 : Nat), e = .returned (.tuple #[V, .agg #[.int .i64 (X0 : Int), .int .i64 (Q0 : Int)]]) ∧ (X0 ≠ 0 ∨ 0 < m) := by
            rcases hcase with ⟨r, l2, a2, k2, hp, he, _, _⟩ | ⟨x', q', hp, hx', he⟩
            · refine ⟨_, 0, 0, he, .inr ?_⟩
              rcases Nat.eq_zero_or_pos m with h0 | h0
              · exfalso
                have hL0 := HL'.out
                rw [h0] at hL0
                obtain ⟨x2, q2, h2⟩ := brack_no (by rw [← HL.out] at HT; exact HT.out) (by rw [HL.out]; exact HSL.out) hL0 HR.out HP.out hr'
                rw [hp] at h2
                cases h2
              · exact h0
            · exact ⟨_, x', q', he, .inl hx'⟩
          clear hb4 hr' hcase HPY
          obtain ⟨V, X0, Q0, rfl, hor⟩ := hend
          go_wp2_with fail
          refine wp_veil ?_
          obtain ⟨W4, hW4⟩ : ∃ W4, W4 = w4.alloc (.cells #[.int .i64 (X0 : Int), .int .i64 (Q0 : Int)] 26) := ⟨_, rfl⟩
          obtain ⟨F4, hF4⟩ : ∃ F4, F4 = w4.heap.size := ⟨_, rfl⟩
          have HF4 : Hid (Held W4 F4 26 #[.int .i64 (X0 : Int), .int .i64 (Q0 : Int)]) := by rw [hW4, hF4]; exact Held.new _ _ _
          have hbn4 : Below w4.heap.size w4 W4 := by rw [hW4]; exact (Below.refl _ _).alloc (Nat.le_refl _) _
          replace HB2 := hidden (below_next HB2.out hbn4)
          replace HF2 := hidden (HF2.out.since hbn4)
          rw [← hW4, ← hF4]
          clear hW4 hF4 hbn4
          have c0 : W4.cell? ⟨F2, 0, none⟩ = some (.int .i64 (x : Int)) := HF2.out.at_ rfl
          have d0 : W4.cell? ⟨F4, 0, none⟩ = some (.int .i64 (X0 : Int)) := HF4.out.at_ rfl
          by_cases hX0 : X0 = 0
          · have hX1 : ((X0 : Int) != 0) = false := by rw [hX0]; rfl
            have hm0 : (0 : Int) < (m : Int) := by omega
            clear hX0 hor
            go_wp2_with fail
            refine (HWK.out W4 HB2.out).mono ?_
            rintro e w6 ⟨rfl, hb6⟩
            have HB6 := hidden hb6
            clear hb6
            go_wp2_with fail
            go_ret
            exact ⟨rfl, HB6.out⟩
          · have hX1 : ((X0 : Int) != 0) = true := by simp; omega
            clear hX0 hor
            go_wp2_with fail
            refine (HWK.out W4 HB2.out).mono ?_
            rintro e w6 ⟨rfl, hb6⟩
            have HB6 := hidden hb6
            clear hb6
            go_wp2_with fail
            go_ret
            exact ⟨rfl, HB6.out⟩
  · have HB1 := hidden hb1
    have hx0 : ((x : Int) != 0) = true := by
      have hx : x ≠ 0 := (er_S (show S _ _ = _ from hT)).1
      simp; omega
    clear hT hb1
    go_wp2_with fail
    refine wp_veil ?_
    obtain ⟨W1, hW1⟩ : ∃ W1, W1 = w1.alloc (.cells #[.int .i64 (x : Int), .int .i64 (p : Int)] 26) := ⟨_, rfl⟩
    obtain ⟨F, hF⟩ : ∃ F, F = w1.heap.size := ⟨_, rfl⟩
    have HF : Hid (Held W1 F 26 #[.int .i64 (x : Int), .int .i64 (p : Int)]) := by rw [hW1, hF]; exact Held.new _ _ _
    have hbn : Below w1.heap.size w1 W1 := by rw [hW1]; exact (Below.refl _ _).alloc (Nat.le_refl _) _
    replace HB1 := hidden (below_next HB1.out hbn)
    rw [← hW1, ← hF]
    clear hW1 hF hbn
    have c0 : W1.cell? ⟨F, 0, none⟩ = some (.int .i64 (x : Int)) := HF.out.at_ rfl
    go_wp2_with fail
    refine (HWK.out W1 HB1.out).mono ?_
    rintro e w2 ⟨rfl, hb2⟩
    have HB2 := hidden hb2
    clear hb2
    go_wp2_with fail
    go_ret
    exact ⟨rfl, HB2.out⟩
end Go.Proofs.YtnmeijcaaohnpaaDoor
