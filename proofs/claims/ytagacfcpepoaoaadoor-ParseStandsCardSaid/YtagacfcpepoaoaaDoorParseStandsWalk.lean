/- The walk through ParseStands. -/
import Derived.Test.YtagacfcpepoaoaaDoorMUse
import Derived.Test.YtagacfcpepoaoaaDoorMGen
namespace Go.Proofs.YtagacfcpepoaoaaDoor
open Go.RowKit
set_option linter.unusedVariables false

/-- where tokens stand -/
def places (L : List Tk) : List Int := L.map (fun t => (t.place : Int))
theorem places_length (L : List Tk) : (places L).length = L.length := by unfold places; rw [List.length_map]
theorem mem_places {L : List Tk} {t : Tk} (h : t ∈ L) : (t.place : Int) ∈ places L := List.mem_map_of_mem h
theorem places_next {L : List Tk} {k : Nat} {t : Tk} (h : L[k]? = some t) : (places L).take (k + 1) = (places L).take k ++ [(t.place : Int)] := by
  have hk := (List.getElem?_eq_some_iff.1 h).1
  rw [List.take_succ_eq_append_getElem (by rw [places_length]; exact hk)]
  have : (places L)[k]'(by rw [places_length]; exact hk) = (t.place : Int) := by
    have h2 : (places L)[k]? = some (t.place : Int) := by unfold places; rw [List.getElem?_map, h]; rfl
    exact (List.getElem?_eq_some_iff.1 h2).2
  rw [this]
theorem tok_cell {L : List Tk} {w : World} {g k : Nat} {t : Tk} (hc : ∀ j u, (tkCells L)[j]? = some u → w.cell? ⟨g, j, none⟩ = some u) (h : L[k]? = some t) : w.cell? ⟨g, k * 4 + 3, none⟩ = some (.int .i64 (t.place : Int)) :=
  hc (k * 4 + 3) _ ((tkCells_get L k 3 t h (by omega)).trans rfl)
theorem built_one (w : World) (z : Int) : Built w (w.alloc (.cells #[.int .i64 z] 3)) (.slice (some ⟨w.heap.size, 0, none⟩) 1 1) [z] := ⟨now_new w [z] #[.int .i64 z] rfl (by simp) 1 rfl, (Below.refl _ _).alloc (Nat.le_refl _) _⟩
/-- what Parse tells of a text whose tokens are these, in one form -/
theorem PT.form {l : List UInt8} {L : List Tk} {w w' : World} {e : Ending} (h : PT l w e w') (hT : T l 0 = .ok L) : Below w.heap.size w w' ∧ ∃ (av : Option Addr) (na ac fx fq : Nat) (v : Out), e = .returned (.tuple #[.slice av na ac, .agg #[.int .i64 (fx : Int), .int .i64 (fq : Int)]]) ∧ PReads (.prog []) 0 ⟨L, [], []⟩ v ∧
    ((fx = 0 ∧ fq = 0 ∧ ∃ ps s' l', v = .ok (ps, s') ∧ na = l'.length ∧ Nodes w' av l' ∧ l'.map bare = s'.l ∧ l'.length ≤ 100000) ∨ (fx ≠ 0 ∧ av = none ∧ na = 0 ∧ ac = 0 ∧ v = .error (fx, fq))) := by
  obtain ⟨hb, h⟩ := h
  refine ⟨hb, ?_⟩
  rw [hT] at h
  rcases h with ⟨x, q, h, _⟩ | ⟨L', v, h1, hr, h⟩
  · cases h
  · injection h1 with h1
    subst h1
    rcases h with ⟨ps, s', l', a, c, h2, he, hN, hb', hl'⟩ | ⟨x, q, h2, hx, he⟩
    · exact ⟨a, l'.length, c, 0, 0, v, he, hr, .inl ⟨rfl, rfl, ps, s', l', h2, rfl, hN, hb', hl'⟩⟩
    · exact ⟨none, 0, 0, x, q, v, he, hr, .inr ⟨hx, rfl, rfl, rfl, h2⟩⟩
theorem pparse_err {x q : Nat} (s : ByteArray) (w : World) (hT : PTabs w) (hs : s.size ≤ 65536) (hTl : T s.data.toList 0 = .error (x, q)) :
    Calls Tryd.prog 7 #[.string s] w fun e w' => Below w.heap.size w w' ∧ e = .returned (.tuple #[.slice none 0 0, .agg #[.int .i64 (x : Int), .int .i64 (q : Int)]]) := by
  refine (pparse_told s w hT hs).mono ?_
  rintro e w' ⟨hb, h⟩
  refine ⟨hb, ?_⟩
  rw [hTl] at h
  rcases h with ⟨x', q', h1, he⟩ | ⟨L', v, h1, _⟩
  · injection h1 with h1
    injection h1 with h2 h3
    subst h2 h3
    exact he
  · cases h1
theorem tokens_err {x q : Nat} (s : ByteArray) (w : World) (hs : s.size ≤ 65536) (hTl : T s.data.toList 0 = .error (x, q)) :
    Calls Tryd.prog 8 #[.string s] w fun e w' => Below w.heap.size w w' ∧ e = .returned (.tuple #[.slice none 0 0, .agg #[.int .i64 (x : Int), .int .i64 (q : Int)]]) := by
  refine (rtokens_any s w hs).mono ?_
  rintro e w' (⟨L', v1, h1, _⟩ | ⟨x', q', h1, he, hb⟩)
  · rw [hTl] at h1; cases h1
  · rw [hTl] at h1
    injection h1 with h1
    injection h1 with h2 h3
    subst h2 h3
    exact ⟨hb, he⟩
set_option maxRecDepth 100000 in
set_option maxHeartbeats 8000000 in
theorem pstands_any (s : ByteArray) (w : World) (hX : PTabs w) :
    Calls Tryd.prog 3 #[.string s] w fun e w' => e = .returned (.bool true) ∧ Below w.heap.size w w' := by
  have HX := hidden hX
  clear hX
  have HWK : Hid (∀ w' : World, Below w.heap.size w w' → Calls Tryd.prog 6 #[] w' fun e w'' => e = .returned (.bool true) ∧ Below w.heap.size w w'') := by
    intro w' hb
    refine (works_any w' (HX.out.below hb)).mono ?_
    rintro e w'' ⟨h1, h2⟩
    exact ⟨h1, below_next hb h2⟩
  go_enter Tryd.func3, Tryd.ntmps3
  by_cases hlong : 1000 < s.size
  · have hli : (1000 : Int) < (s.size : Int) := by omega
    go_wp2_with fail
    refine (HWK.out w (Below.refl _ _)).mono ?_
    rintro e w1 ⟨rfl, hb1⟩
    have HB1 := hidden hb1
    clear hb1
    go_wp2_with fail
    go_ret
    exact ⟨rfl, HB1.out⟩
  have hli : ¬ (1000 : Int) < (s.size : Int) := by omega
  have HS6 : Hid (s.size ≤ 65536) := by show s.size ≤ 65536; omega
  rw [veil 4, veil 5, veil 8, veil 12]
  go_wp2_with fail
  cases hT : T s.data.toList 0 with
  | error xq =>
    obtain ⟨x, q⟩ := xq
    have HT := hidden hT
    have hx0 : ((x : Int) != 0) = true := by have hx := T_err hT; simp; omega
    clear hT
    refine (pparse_err s w HX.out HS6.out HT.out).mono ?_
    rintro e w1 ⟨hb1, rfl⟩
    have HB1 := hidden hb1
    clear hb1
    obtain ⟨W1, hW1⟩ : ∃ W1, W1 = w1.alloc (.cells #[.int .i64 (x : Int), .int .i64 (q : Int)] 26) := ⟨_, rfl⟩
    obtain ⟨F, hF⟩ : ∃ F, F = w1.heap.size := ⟨_, rfl⟩
    have HF : Hid (Held W1 F 26 #[.int .i64 (x : Int), .int .i64 (q : Int)]) := by rw [hW1, hF]; exact Held.new _ _ _
    have hbn : Below w1.heap.size w1 W1 := by rw [hW1]; exact (Below.refl _ _).alloc (Nat.le_refl _) _
    replace HB1 := hidden (below_next HB1.out hbn)
    clear hbn
    go_wp2_with fail
    rw [← hW1, ← hF]
    clear hW1 hF
    refine wp_veil ?_
    go_wp2_with fail
    refine (tokens_err s W1 HS6.out HT.out).mono ?_
    rintro e w2 ⟨hb2, rfl⟩
    replace HB1 := hidden (below_next HB1.out hb2)
    replace HF := hidden (HF.out.since hb2)
    clear hb2
    obtain ⟨W2, hW2⟩ : ∃ W2, W2 = w2.alloc (.cells #[.int .i64 (x : Int), .int .i64 (q : Int)] 26) := ⟨_, rfl⟩
    obtain ⟨G, hG⟩ : ∃ G, G = w2.heap.size := ⟨_, rfl⟩
    have HG : Hid (Held W2 G 26 #[.int .i64 (x : Int), .int .i64 (q : Int)]) := by rw [hW2, hG]; exact Held.new _ _ _
    have hbn : Below w2.heap.size w2 W2 := by rw [hW2]; exact (Below.refl _ _).alloc (Nat.le_refl _) _
    replace HB1 := hidden (below_next HB1.out hbn)
    replace HF := hidden (HF.out.since hbn)
    clear hbn
    go_wp2_with fail
    rw [← hW2, ← hG]
    clear hW2 hG
    have c0 : W2.cell? ⟨F, 0, none⟩ = some (.int .i64 (x : Int)) := HF.out.at_ rfl
    have c1 : W2.cell? ⟨F, 1, none⟩ = some (.int .i64 (q : Int)) := HF.out.at_ rfl
    have d0 : W2.cell? ⟨G, 0, none⟩ = some (.int .i64 (x : Int)) := HG.out.at_ rfl
    have d1 : W2.cell? ⟨G, 1, none⟩ = some (.int .i64 (q : Int)) := HG.out.at_ rfl
    refine wp_veil ?_
    go_wp2_with fail
    refine (HWK.out W2 HB1.out).mono ?_
    rintro e w6 ⟨rfl, hb6⟩
    have HB6 := hidden hb6
    clear hb6
    go_wp2_with fail
    go_ret
    exact ⟨rfl, HB6.out⟩
  | ok L =>
    have HT := hidden hT
    have HIT := hidden (T_isTk hT)
    have HL0 := hidden (T_len hT).1
    have hn0 := (T_len hT).1
    have hn1 : L.length ≤ 1001 := by have := (T_len hT).2; rw [length_of] at this; omega
    obtain ⟨n, hn⟩ : ∃ n, n = L.length := ⟨_, rfl⟩
    rw [← hn] at hn0 hn1
    have HN := hidden hn
    clear hT hn
    refine (pparse_told s w HX.out HS6.out).mono ?_
    intro e w1 h
    obtain ⟨hb1, av, na, ac, fx, fq, v, rfl, hr, hcase⟩ := h.form HT.out
    have HB1 := hidden hb1
    have HR := hidden hr
    have HCS := hidden hcase
    clear hb1 hr hcase h
    obtain ⟨W1, hW1⟩ : ∃ W1, W1 = w1.alloc (.cells #[.int .i64 (fx : Int), .int .i64 (fq : Int)] 26) := ⟨_, rfl⟩
    obtain ⟨F, hF⟩ : ∃ F, F = w1.heap.size := ⟨_, rfl⟩
    have HF : Hid (Held W1 F 26 #[.int .i64 (fx : Int), .int .i64 (fq : Int)]) := by rw [hW1, hF]; exact Held.new _ _ _
    have HBA : Hid (Below w1.heap.size w1 W1) := by rw [hW1]; exact (Below.refl _ _).alloc (Nat.le_refl _) _
    go_wp2_with fail
    rw [← hW1, ← hF]
    clear hW1 hF
    refine wp_veil ?_
    go_wp2_with fail
    refine (tokens_ok s W1 HS6.out HT.out).mono ?_
    rintro e w2 ⟨v1, rfl, hV1⟩
    have HV1 := hidden hV1
    clear hV1
    obtain ⟨W2, hW2⟩ : ∃ W2, W2 = w2.alloc (.cells #[.int .i64 0, .int .i64 0] 26) := ⟨_, rfl⟩
    obtain ⟨G, hG⟩ : ∃ G, G = w2.heap.size := ⟨_, rfl⟩
    have HG : Hid (Held W2 G 26 #[.int .i64 0, .int .i64 0]) := by rw [hW2, hG]; exact Held.new _ _ _
    have hbn : Below w2.heap.size w2 W2 := by rw [hW2]; exact (Below.refl _ _).alloc (Nat.le_refl _) _
    have HVW := hidden (HV1.out.quiet hbn)
    clear hbn
    obtain ⟨ta, tc, hv, _, hp⟩ := HVW.out.shape
    obtain ⟨g, hga, hg, hc⟩ := hp HL0.out
    subst hga
    subst hv
    have HGG := hidden hg
    have HC := hidden hc
    have HBV : Hid (Below w1.heap.size w1 W2) := below_next HBA.out HVW.out.2
    clear hp hg hc HV1
    rw [← HN.out]
    go_wp2_with fail
    rw [← hW2, ← hG]
    clear hW2 hG
    have c0 : W2.cell? ⟨G, 0, none⟩ = some (.int .i64 0) := HG.out.at_ rfl
    refine wp_veil ?_
    go_wp2_with fail
    clear c0
    refine wp_veil ?_
    obtain ⟨W3, hW3⟩ : ∃ W3, W3 = W2.alloc (.cells #[.int .i64 0] 3) := ⟨_, rfl⟩
    have HST : Hid (Built W2 W3 (.slice (some ⟨W2.heap.size, 0, none⟩) 1 1) [0]) := by rw [hW3]; exact built_one W2 0
    rw [← hW3]
    clear hW3
    obtain ⟨v5, hv5⟩ : ∃ v5, v5 = Value.slice (some ⟨W2.heap.size, 0, none⟩) 1 1 := ⟨_, rfl⟩
    rw [← hv5] at HST ⊢
    clear hv5
    go_wp2_with fail
    go_loopw [7, 8] (fun v i wr => ∃ k : Nat, k ≤ n ∧ i = .int .i64 (k : Int) ∧ Hid (Built W2 wr v (0 :: (places L).take k))) (fun _ i _ => n - (intOf i).toNat)
    case atStart => exact ⟨0, Nat.zero_le _, rfl, HST⟩
    case round =>
      obtain ⟨k, hk, rfl, hB⟩ := hrel
      by_cases hlt : k < n
      · obtain ⟨t, ht⟩ : ∃ t, L[k]? = some t := ⟨_, List.getElem?_eq_getElem (by rw [← HN.out]; exact hlt)⟩
        have c3 : wr.cell? ⟨g, k * 4 + 3, none⟩ = some (.int .i64 (t.place : Int)) := by
          rw [← tok_cell HC.out ht]
          exact hB.out.2.cell (p := ⟨g, k * 4 + 3, none⟩) HGG.out
        have hpl : (0 :: (places L).take k).length ≤ 10000000 := by rw [List.length_cons, List.length_take]; omega
        have HNX := hidden (places_next ht)
        obtain ⟨P, hP⟩ : ∃ P, P = t.place := ⟨_, rfl⟩
        rw [← hP] at c3 HNX
        clear ht hP
        have hki : (k : Int) < (n : Int) := by omega
        go_wp2_with (at_builtin; refine wpList_push rfl (.tmp 45) (.tmp 51) rfl W2 _ _ _ _ rfl rfl hB.out hpl ?_; intro v6 w6 hb6)
        have HB6 := hidden hb6
        clear hb6 c3
        go_roundw
        case rel => exact ⟨k + 1, by omega, by go_num, (show Built W2 w6 v6 (0 :: (places L).take (k + 1)) by rw [HNX.out]; exact HB6.out)⟩
        case measure => simp [intOf]; omega
      · obtain rfl : k = n := by omega
        have hBB : Built W2 wr u7 (0 :: places L) := by
          have := hB.out
          rw [List.take_of_length_le (by rw [places_length, HN.out]; exact Nat.le_refl _)] at this
          exact this
        have HBS := hidden hBB
        clear hB hBB
        have HBW : Hid (Below w.heap.size w wr) := below_next HB1.out (below_next HBV.out HBS.out.2)
        replace HF := hidden (HF.out.since (below_next HVW.out.2 HBS.out.2))
        have HBX : Hid (Below w1.heap.size w1 wr) := below_next HBV.out HBS.out.2
        obtain ⟨sa, scap, hsv, hrows⟩ := HBS.out.rows
        rw [List.length_cons, places_length, ← HN.out] at hsv hrows
        rw [hsv]
        have HROW := hidden hrows
        clear hsv hrows
        rcases HCS.out with ⟨h0, h1, ps, s', l', hv, hna, hN, hl', hle⟩ | ⟨h0, h1, h2, h3, hv⟩
        · subst h0 h1 hv
          rw [show ((0 : Nat) : Int) = 0 from rfl]
          have hA := preads_told HIT.out HL0.out HR.out
          have HWH : Hid (Wh l') := by
            have h1 : Wh (l'.map bare) := by rw [hl']; exact ⟨hA.1, hA.2.1⟩
            exact ⟨bare_rt h1.1, by have h2 := h1.2; rw [List.length_map, nd_bare] at h2; exact h2⟩
          have HST2 : Hid (∀ j, j < l'.length → (nd l' j).at_ ∈ 0 :: places L) := by
            intro j hj
            have hm : bare (nd l' j) ∈ s'.l := by
              rw [← hl', ← nd_bare]
              unfold nd
              rw [List.getD_eq_getElem?_getD, List.getElem?_eq_getElem (by rw [List.length_map]; exact hj)]
              exact List.getElem_mem _
            rcases hA.2.2.1 _ hm with ⟨t, ht, e⟩ | e
            · have e' : (nd l' j).at_ = (t.place : Int) := e
              rw [e']
              exact List.mem_cons_of_mem _ (mem_places ht)
            · have e' : (nd l' j).at_ = 0 := e
              rw [e']
              exact List.mem_cons_self
          have HN2 := hidden (hN.below HBX.out)
          have HLE := hidden hle
          have HNA := hidden hna
          rw [hna] at hna
          have hna2 : na ≤ 100000 := by rw [HNA.out]; exact hle
          clear hN hl' hA hle hna HCS
          have c0 : wr.cell? ⟨F, 0, none⟩ = some (.int .i64 0) := HF.out.at_ rfl
          go_wp2_with fail
          refine wp_veil ?_
          go_wp2_with fail
          clear c0
          go_loop [9] (fun i => ∃ j : Nat, j ≤ na ∧ i = .int .i64 (j : Int)) (fun i => na - (intOf i).toNat)
          case atStart => exact ⟨0, Nat.zero_le _, rfl⟩
          case round =>
            obtain ⟨j, hj, rfl⟩ := hrel
            by_cases hjlt : j < na
            · obtain ⟨b, off, ha', hbl, hcell⟩ := HN2.out.at_ (j := j) (by rw [← HNA.out]; exact hjlt)
              subst ha'
              have c4 := hcell.2.2.2.2
              have HMEM := hidden (HST2.out j (by rw [← HNA.out]; exact hjlt))
              obtain ⟨A, hA⟩ : ∃ A, A = (nd l' j).at_ := ⟨_, rfl⟩
              rw [← hA] at c4 HMEM
              clear hA hcell hbl
              have hji : (j : Int) < (na : Int) := by omega
              go_wp2_with fail
              refine (hasInt_list sa (k + 1) scap (0 :: places L) A wr (by rw [List.length_cons, places_length, ← HN.out]) (by omega) HROW.out).mono ?_
              rintro e w5 ⟨rfl, hw5⟩
              rw [hw5, decide_eq_true HMEM.out]; clear hw5 w5
              clear c4
              go_wp2_with fail
              go_round
              case rel => exact ⟨j + 1, by omega, by go_num⟩
              case measure => simp [intOf]; omega
            · obtain rfl : j = na := by omega
              go_wp2_with fail
              refine (rwhole_any av ac j l' wr HNA.out HN2.out hna2).mono ?_
              rintro e w5 ⟨b, rfl, hiff, hb5⟩
              obtain rfl : b = true := hiff.2 HWH.out
              replace HBW := hidden (below_next HBW.out hb5)
              clear hiff hb5
              go_wp2_with fail
              refine (HWK.out w5 HBW.out).mono ?_
              rintro e w6 ⟨rfl, hb6⟩
              have HB6 := hidden hb6
              clear hb6
              go_wp2_with fail
              go_ret
              exact ⟨rfl, HB6.out⟩
        · subst h1 h2 h3 hv
          have HMEM : Hid ((fq : Int) ∈ 0 :: places L) := by
            have hA := preads_told HIT.out HL0.out HR.out
            rcases hA with ⟨t, htm, hq⟩ | hq
            · have hq : fq = t.place := hq
              show (fq : Int) ∈ _
              rw [hq]
              exact List.mem_cons_of_mem _ (mem_places htm)
            · have hq : fq = 0 := hq
              show (fq : Int) ∈ _
              rw [hq]
              exact List.mem_cons_self
          have hx0 : ((fx : Int) != 0) = true := by simp; omega
          clear h0 HCS
          have c0 : wr.cell? ⟨F, 0, none⟩ = some (.int .i64 (fx : Int)) := HF.out.at_ rfl
          have c1 : wr.cell? ⟨F, 1, none⟩ = some (.int .i64 (fq : Int)) := HF.out.at_ rfl
          go_wp2_with fail
          refine wp_veil ?_
          go_wp2_with fail
          refine (hasInt_list sa (k + 1) scap (0 :: places L) (fq : Int) wr (by rw [List.length_cons, places_length, ← HN.out]) (by omega) HROW.out).mono ?_
          rintro e w5 ⟨rfl, hw5⟩
          rw [hw5, decide_eq_true HMEM.out]; clear hw5 w5
          clear c0 c1
          go_wp2_with fail
          refine (HWK.out wr HBW.out).mono ?_
          rintro e w6 ⟨rfl, hb6⟩
          have HB6 := hidden hb6
          clear hb6
          go_wp2_with fail
          go_ret
          exact ⟨rfl, HB6.out⟩
end Go.Proofs.YtagacfcpepoaoaaDoor
