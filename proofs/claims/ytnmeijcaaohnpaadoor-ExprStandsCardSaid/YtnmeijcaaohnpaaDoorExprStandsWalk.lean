/- The walk through ExprStands. -/
import Derived.Test.YtnmeijcaaohnpaaDoorExprWorks
import Derived.Test.YtnmeijcaaohnpaaDoorGenHas
namespace Go.Proofs.YtnmeijcaaohnpaaDoor
open Go.RowKit
set_option linter.unusedVariables false

/-- where tokens stand -/
def places (L : List Tk) : List Int := L.map (fun t => (t.place : Int))
theorem places_length (L : List Tk) : (places L).length = L.length := by unfold places; rw [List.length_map]
theorem mem_places {L : List Tk} {t : Tk} (h : t ∈ L) : (t.place : Int) ∈ places L := List.mem_map_of_mem h
theorem places_next {L : List Tk} {k : Nat} {t : Tk} (h : L[k]? = some t) : (places L).take (k + 1) = (places L).take k ++ [(t.place : Int)] := by
  have hk := (List.getElem?_eq_some_iff.1 h).1
  rw [List.take_succ_eq_append_getElem (by rw [places_length]; exact hk)]
  have : (places L)[k]'(by rw [places_length]; exact hk) = (t.place : Int) := by
    have h2 : (places L)[k]? = some (t.place : Int) := by unfold places; rw [List.getElem?_map, h]; rfl
    exact (List.getElem?_eq_some_iff.1 h2).2
  rw [this]
theorem tok_cell {L : List Tk} {w : World} {g k : Nat} {t : Tk} (hc : ∀ j u, (tkCells L)[j]? = some u → w.cell? ⟨g, j, none⟩ = some u) (h : L[k]? = some t) : w.cell? ⟨g, k * 4 + 3, none⟩ = some (.int .i64 (t.place : Int)) :=
  hc (k * 4 + 3) _ ((tkCells_get L k 3 t h (by omega)).trans rfl)
set_option maxRecDepth 100000 in
set_option maxHeartbeats 4000000 in
theorem stands_any (s : ByteArray) (w : World) (hX : XTabs w) :
    Calls Tryd.prog 3 #[.string s] w fun e w' => e = .returned (.bool true) ∧ Below w.heap.size w w' := by
  have HX := hidden hX
  have HX3 := hidden hX.size
  clear hX
  have HWK : Hid (∀ w' : World, Below w.heap.size w w' → Calls Tryd.prog 6 #[] w' fun e w'' => e = .returned (.bool true) ∧ Below w.heap.size w w'') := by
    intro w' hb
    refine (works_any w' (HX.out.keep (fun k hk => hb.block k (by have := HX3.out; omega)))).mono ?_
    rintro e w'' ⟨h1, h2⟩
    exact ⟨h1, below_next hb h2⟩
  go_enter Tryd.func3, Tryd.ntmps3
  by_cases hlong : 600 < s.size
  · have hli : (600 : Int) < (s.size : Int) := by omega
    go_wp2_with fail
    refine (HWK.out w (Below.refl _ _)).mono ?_
    rintro e w1 ⟨rfl, hb1⟩
    have HB1 := hidden hb1
    clear hb1
    go_wp2_with fail
    go_ret
    exact ⟨rfl, HB1.out⟩
  have hli : ¬ (600 : Int) < (s.size : Int) := by omega
  rw [veil 4, veil 7, veil 11, veil 12]
  go_wp2_with fail
  refine (rtokens_any s w (by omega)).mono ?_
  rintro e w1 (⟨L, v1, hT, rfl, hV1⟩ | ⟨x, p, hT, rfl, hb1⟩)
  · have HT := hidden hT
    have HSZ : Hid (s.data.toList.length ≤ 65536) := by show s.data.toList.length ≤ 65536; rw [length_of]; omega
    have hn0 := (T_len hT).1
    have hn1 : L.length ≤ 601 := by have := (T_len hT).2; rw [length_of] at this; omega
    obtain ⟨n, hn⟩ : ∃ n, n = L.length := ⟨_, rfl⟩
    rw [← hn] at hn0 hn1
    have HN := hidden hn
    have HV1 := hidden hV1
    clear hT hV1 hn
    go_wp2_with fail
    refine wp_veil ?_
    obtain ⟨W1, hW1⟩ : ∃ W1, W1 = w1.alloc (.cells #[.int .i64 0, .int .i64 0] 26) := ⟨_, rfl⟩
    obtain ⟨F, hF⟩ : ∃ F, F = w1.heap.size := ⟨_, rfl⟩
    have HF : Hid (Held W1 F 26 #[.int .i64 0, .int .i64 0]) := by rw [hW1, hF]; exact Held.new _ _ _
    have HVW := hidden (HV1.out.quiet ((Below.refl _ _).alloc (Nat.le_refl w1.heap.size) (.cells #[.int .i64 0, .int .i64 0] 26)))
    rw [← hW1] at HVW
    rw [← hW1, ← hF]
    clear hW1 hF HV1
    obtain ⟨a, c, hv, _, hp⟩ := HVW.out.shape
    obtain ⟨g, hga, hg, hc⟩ := hp (by rw [← HN.out]; exact hn0)
    subst hga
    have HVS := hidden hv
    have HG := hidden hg
    have HC := hidden hc
    clear hp hg hc hv
    rw [HVS.out, ← HN.out]
    have c0 : W1.cell? ⟨F, 0, none⟩ = some (.int .i64 0) := HF.out.at_ rfl
    go_wp2_with fail
    clear c0
    refine wp_veil ?_
    obtain ⟨W2, hW2⟩ : ∃ W2, W2 = W1.alloc (.cells #[] 3) := ⟨_, rfl⟩
    have HST : Hid (Built W1 W2 (.slice (some ⟨W1.heap.size, 0, none⟩) 0 0) []) := by rw [hW2]; exact Built.start W1 #[] rfl
    rw [← hW2]
    clear hW2
    obtain ⟨v5, hv5⟩ : ∃ v5, v5 = Value.slice (some ⟨W1.heap.size, 0, none⟩) 0 0 := ⟨_, rfl⟩
    rw [← hv5] at HST ⊢
    clear hv5
    go_wp2_with fail
    go_loopw [5, 6] (fun v i wr => ∃ k : Nat, k ≤ n ∧ i = .int .i64 (k : Int) ∧ Hid (Built W1 wr v ((places L).take k))) (fun _ i _ => n - (intOf i).toNat)
    case atStart => exact ⟨0, Nat.zero_le _, rfl, HST⟩
    case round =>
      obtain ⟨k, hk, rfl, hB⟩ := hrel
      by_cases hlt : k < n
      · obtain ⟨t, ht⟩ : ∃ t, L[k]? = some t := ⟨_, List.getElem?_eq_getElem (by rw [← HN.out]; exact hlt)⟩
        have c3 : wr.cell? ⟨g, k * 4 + 3, none⟩ = some (.int .i64 (t.place : Int)) := by
          rw [← tok_cell HC.out ht]
          exact hB.out.2.cell (p := ⟨g, k * 4 + 3, none⟩) HG.out
        have hpl : ((places L).take k).length ≤ 10000000 := by rw [List.length_take]; omega
        have HNX := hidden (places_next ht)
        obtain ⟨P, hP⟩ : ∃ P, P = t.place := ⟨_, rfl⟩
        rw [← hP] at c3 HNX
        clear ht hP
        have hki : (k : Int) < (n : Int) := by omega
        go_wp2_with (at_builtin; refine wpList_push rfl (.tmp 30) (.tmp 36) rfl W1 _ _ _ _ rfl rfl hB.out hpl ?_; intro v6 w6 hb6)
        have HB6 := hidden hb6
        clear hb6 c3
        go_roundw
        case rel => exact ⟨k + 1, by omega, by go_num, (show Built W1 w6 v6 ((places L).take (k + 1)) by rw [HNX.out]; exact HB6.out)⟩
        case measure => simp [intOf]; omega
      · obtain rfl : k = n := by omega
        have hBB : Built W1 wr u5 (places L) := by
          have := hB.out
          rw [List.take_of_length_le (by rw [places_length, HN.out]; exact Nat.le_refl _)] at this
          exact this
        have HBB := hidden hBB
        clear hB hBB
        obtain ⟨W3, hW3⟩ : ∃ W3, W3 = wr := ⟨_, rfl⟩
        have HVX := hidden (HVW.out.quiet HBB.out.2)
        have HX3' : Hid (XTabs wr) := HX.out.keep (fun j hj => HVX.out.2.block j (by have := HX3.out; omega))
        have HPT := hidden (parse_told HT.out HSZ.out HVX.out HX3'.out)
        rw [HVS.out, ← HN.out] at HPT
        have HBW : Hid (Below w.heap.size w wr) := HVX.out.2
        clear HVX hW3
        go_wp2_with fail
        refine wp_veil ?_
        go_wp2_with fail
        refine HPT.out.mono ?_
        rintro e w2 ⟨hb2, o, hr, hcase⟩
        have HB2 := hidden (below_next HBW.out hb2)
        have HBS := hidden (HBB.out.quiet hb2)
        have HR := hidden hr
        clear hb2 HPT HX3' hr
        rcases hcase with ⟨r, l', a', c', hp, rfl, hN, hl'⟩ | ⟨x, q, hp, hx, rfl⟩
        · have hA := parsed_ok (T_isTk HT.out) (T_len HT.out).1 HR.out hp
          have HRT : Hid (Rt l') := bare_rt (by rw [hl']; exact hA.right)
          have hlen : l'.length = r.length := by have := congrArg List.length hl'; rw [List.length_map] at this; exact this
          have hrl : r.length ≤ 100000 := by
            cases o with
            | error f => cases hp
            | ok y =>
              obtain ⟨ps, s'⟩ := y
              have hsl := HR.out.slack.1
              have he : r = s'.l := by
                have hp' : (if s'.tok.kind = 0 then Except.ok s'.l else Except.error (8, s'.tok.place)) = (Except.ok r : Except Flt (List Nd)) := hp
                split at hp'
                · injection hp' with hp'; exact hp'.symm
                · cases hp'
              rw [he]
              have e0 : ([] : List Nd).length = 0 := rfl
              have e1 : L.length = k := HN.out.symm
              simp only [e0, e1] at hsl
              omega
          have HST2 : Hid (∀ j, j < l'.length → (nd l' j).at_ ∈ places L) := by
            intro j hj
            have hm : bare (nd l' j) ∈ r := by
              rw [← hl', ← nd_bare]
              unfold nd
              rw [List.getD_eq_getElem?_getD, List.getElem?_eq_getElem (by rw [List.length_map]; exact hj)]
              exact List.getElem_mem _
            obtain ⟨t, ht, e⟩ := hA.stand _ hm
            have e' : (nd l' j).at_ = (t.place : Int) := e
            rw [e']
            exact mem_places ht
          have HEX : Hid (isEx (nd l' (l'.length - 1)).kind = true) := by
            have := hA.ex
            rw [← hl', nd_bare, List.length_map] at this
            exact this
          obtain ⟨z, hz⟩ : ∃ z, l'.length = z + 1 := ⟨l'.length - 1, by have := HRT.out.1.1; omega⟩
          have hz5 : z + 1 ≤ 100000 := by omega
          have HN2 := hidden hN
          rw [hz]
          have HZ := hidden hz
          clear hp hN hl' hA hlen hrl hz
          go_wp2_with fail
          refine wp_veil ?_
          obtain ⟨W4, hW4⟩ : ∃ W4, W4 = w2.alloc (.cells #[.int .i64 0, .int .i64 0] 26) := ⟨_, rfl⟩
          obtain ⟨G, hG⟩ : ∃ G, G = w2.heap.size := ⟨_, rfl⟩
          have HF4 : Hid (Held W4 G 26 #[.int .i64 0, .int .i64 0]) := by rw [hW4, hG]; exact Held.new _ _ _
          have hbn : Below w2.heap.size w2 W4 := by rw [hW4]; exact (Below.refl _ _).alloc (Nat.le_refl _) _
          replace HB2 := hidden (below_next HB2.out hbn)
          replace HN2 := hidden (HN2.out.below hbn)
          replace HBS := hidden (HBS.out.quiet hbn)
          rw [← hW4, ← hG]
          clear hW4 hG hbn
          obtain ⟨sa, scap, hsv, hrows⟩ := HBS.out.rows
          rw [places_length, ← HN.out] at hsv hrows
          rw [hsv]
          have HROW := hidden hrows
          clear hsv hrows
          have c0 : W4.cell? ⟨G, 0, none⟩ = some (.int .i64 0) := HF4.out.at_ rfl
          go_wp2_with fail
          clear c0
          go_loop [9] (fun i => ∃ j : Nat, j ≤ z + 1 ∧ i = .int .i64 (j : Int)) (fun i => z + 1 - (intOf i).toNat)
          case atStart => exact ⟨0, Nat.zero_le _, rfl⟩
          case round =>
            obtain ⟨j, hj, rfl⟩ := hrel
            by_cases hjlt : j < z + 1
            · obtain ⟨b, off, ha', hbl, hcell⟩ := HN2.out.at_ (j := j) (by rw [HZ.out]; exact hjlt)
              subst ha'
              have c4 := hcell.2.2.2.2
              have HMEM := hidden (HST2.out j (by rw [HZ.out]; exact hjlt))
              obtain ⟨A, hA⟩ : ∃ A, A = (nd l' j).at_ := ⟨_, rfl⟩
              rw [← hA] at c4 HMEM
              clear hA hcell hbl
              have hji : (j : Int) < ((z + 1 : Nat) : Int) := by omega
              go_wp2_with fail
              refine (hasInt_list sa k scap (places L) A W4 (by rw [places_length]; exact HN.out) (by omega) HROW.out).mono ?_
              rintro e w5 ⟨rfl, hw5⟩
              rw [hw5, decide_eq_true HMEM.out]; clear hw5 w5
              clear c4
              go_wp2_with fail
              go_round
              case rel => exact ⟨j + 1, by omega, by go_num⟩
              case measure => simp [intOf]; omega
            · obtain rfl : j = z + 1 := by omega
              go_wp2_with fail
              refine (rright_any a' c' (z + 1) l' W4 HZ.out.symm HN2.out hz5).mono ?_
              rintro e w5 ⟨b, rfl, hiff, hb5⟩
              obtain rfl : b = true := hiff.2 HRT.out
              replace HB2 := hidden (below_next HB2.out hb5)
              replace HN2 := hidden (HN2.out.below hb5)
              clear hiff hb5
              obtain ⟨b, off, ha', hbl, hcell⟩ := HN2.out.at_ (j := z) (by rw [HZ.out]; omega)
              subst ha'
              have c4 := hcell.1
              have HKD : Hid (isEx (nd l' z).kind = true) := by
                have := HEX.out
                rw [HZ.out, Nat.add_sub_cancel] at this
                exact this
              obtain ⟨A, hA⟩ : ∃ A, A = (nd l' z).kind := ⟨_, rfl⟩
              rw [← hA] at c4 HKD
              clear hA hcell hbl
              go_wp2_with fail
              refine (expr_any A w5).mono ?_
              rintro e w6 ⟨rfl, hw6⟩
              rw [hw6, HKD.out]; clear hw6 w6 c4
              go_wp2_with fail
              refine (HWK.out w5 HB2.out).mono ?_
              rintro e w6 ⟨rfl, hb6⟩
              have HB6 := hidden hb6
              clear hb6
              go_wp2_with fail
              go_ret
              exact ⟨rfl, HB6.out⟩
        · obtain ⟨t, htm, hq⟩ := parsed_bad (T_isTk HT.out) (T_len HT.out).1 HR.out hp
          have HMEM : Hid ((q : Int) ∈ places L) := by show (q : Int) ∈ places L; rw [hq]; exact mem_places htm
          have hx0 : ((x : Int) != 0) = true := by simp; omega
          clear htm hq hp hx
          go_wp2_with fail
          refine wp_veil ?_
          obtain ⟨W4, hW4⟩ : ∃ W4, W4 = w2.alloc (.cells #[.int .i64 (x : Int), .int .i64 (q : Int)] 26) := ⟨_, rfl⟩
          obtain ⟨G, hG⟩ : ∃ G, G = w2.heap.size := ⟨_, rfl⟩
          have HF4 : Hid (Held W4 G 26 #[.int .i64 (x : Int), .int .i64 (q : Int)]) := by rw [hW4, hG]; exact Held.new _ _ _
          have hbn : Below w2.heap.size w2 W4 := by rw [hW4]; exact (Below.refl _ _).alloc (Nat.le_refl _) _
          replace HB2 := hidden (below_next HB2.out hbn)
          replace HBS := hidden (HBS.out.quiet hbn)
          rw [← hW4, ← hG]
          clear hW4 hG hbn
          obtain ⟨sa, scap, hsv, hrows⟩ := HBS.out.rows
          rw [places_length, ← HN.out] at hsv hrows
          rw [hsv]
          have HROW := hidden hrows
          clear hsv hrows
          have c0 : W4.cell? ⟨G, 0, none⟩ = some (.int .i64 (x : Int)) := HF4.out.at_ rfl
          have c1 : W4.cell? ⟨G, 1, none⟩ = some (.int .i64 (q : Int)) := HF4.out.at_ rfl
          go_wp2_with fail
          refine (hasInt_list sa k scap (places L) (q : Int) W4 (by rw [places_length]; exact HN.out) (by omega) HROW.out).mono ?_
          rintro e w5 ⟨rfl, hw5⟩
          rw [hw5, decide_eq_true HMEM.out]; clear hw5 w5
          clear c0 c1
          go_wp2_with fail
          refine (HWK.out W4 HB2.out).mono ?_
          rintro e w6 ⟨rfl, hb6⟩
          have HB6 := hidden hb6
          clear hb6
          go_wp2_with fail
          go_ret
          exact ⟨rfl, HB6.out⟩
  · have HB1 := hidden hb1
    have hx0 : ((x : Int) != 0) = true := by
      have hx : x ≠ 0 := (er_S (show S _ _ = _ from hT)).1
      simp; omega
    clear hT hb1
    go_wp2_with fail
    refine wp_veil ?_
    obtain ⟨W1, hW1⟩ : ∃ W1, W1 = w1.alloc (.cells #[.int .i64 (x : Int), .int .i64 (p : Int)] 26) := ⟨_, rfl⟩
    obtain ⟨F, hF⟩ : ∃ F, F = w1.heap.size := ⟨_, rfl⟩
    have HF : Hid (Held W1 F 26 #[.int .i64 (x : Int), .int .i64 (p : Int)]) := by rw [hW1, hF]; exact Held.new _ _ _
    have hbn : Below w1.heap.size w1 W1 := by rw [hW1]; exact (Below.refl _ _).alloc (Nat.le_refl _) _
    replace HB1 := hidden (below_next HB1.out hbn)
    rw [← hW1, ← hF]
    clear hW1 hF hbn
    have c0 : W1.cell? ⟨F, 0, none⟩ = some (.int .i64 (x : Int)) := HF.out.at_ rfl
    go_wp2_with fail
    refine (HWK.out W1 HB1.out).mono ?_
    rintro e w2 ⟨rfl, hb2⟩
    have HB2 := hidden hb2
    clear hb2
    go_wp2_with fail
    go_ret
    exact ⟨rfl, HB2.out⟩
end Go.Proofs.YtnmeijcaaohnpaaDoor
