/- The walks through the statements' helpers on slices of ints: HasInt, SameInts, Ints, Sorted. -/
import Derived.Test.YtingebjeefncaaaGenList
import Derived.Deep.QuietTactic
import Derived.BigQuiet
namespace Go.Proofs.Ytingebjeefncaaa
open Go.RowKit
set_option linter.unusedVariables false

theorem sameInts_len (a b : Option Addr) (n m c c' : Nat) (w : World) (hn : n ≤ 100000) (hm : m ≤ 100000) (h : n ≠ m) :
    Calls Try.prog 17 #[.slice a n c, .slice b m c'] w fun e w' => e = .returned (.bool false) ∧ ∃ q, w' = w.drewN q := by
  have h' : ((n : Int) != (m : Int)) = true := by simp; omega
  go_enter Try.func17, Try.ntmps17
  go_wp2
  go_ret
  exact ⟨rfl, 0, rfl⟩
theorem sameInts_eq (a b : Option Addr) (n c c' : Nat) (f g : Nat → Int) (w : World) (hn : n ≤ 100000) (ha : Rows' .i64 w a n f) (hb : Rows' .i64 w b n g) :
    Calls Try.prog 17 #[.slice a n c, .slice b n c'] w fun e w' => e = .returned (.bool (allEq n f g)) ∧ ∃ q, w' = w.drewN q := by
  have HA := hidden ha
  have HB := hidden hb
  have hr : ((n : Int) != (n : Int)) = false := by simp
  clear ha hb
  go_enter Try.func17, Try.ntmps17
  go_wp2
  go_loopw [5] (fun i wr => ∃ k q : Nat, k ≤ n ∧ i = .int .i64 (k : Int) ∧ wr = w.drewN q ∧ Hid (∀ j, j < k → f j = g j)) (fun i _ => n - (intOf i).toNat)
  case atStart => exact ⟨0, 0, by omega, rfl, rfl, fun j hj => by omega⟩
  case round =>
    obtain ⟨k, q, hk, rfl, rfl, hE⟩ := hrel
    by_cases hkn : k < n
    · obtain ⟨x, off, rfl, hlt, hc⟩ := HA.out (by omega)
      obtain ⟨y, off', rfl, hlt', hc'⟩ := HB.out (by omega)
      have hcell := hc k hkn
      have hcell' := hc' k hkn
      clear hc hc'
      have hki : (k : Int) < (n : Int) := by omega
      by_cases he : f k = g k
      · have he' : (f k != g k) = false := by simp [he]
        have HE := hidden he
        clear he
        go_wp2_with fail
        go_quiet (fail)
        go_wp2_with fail
        go_roundw
        case rel => exact ⟨k + 1, q + nq, by omega, by go_num, rfl, fun j hj => by
          rcases Nat.lt_or_ge j k with h | h
          · exact hE j h
          · rw [show j = k by omega]; exact HE⟩
        case measure => simp [intOf]; omega
      · have he' : (f k != g k) = true := by simp [he]
        have HE := hidden he
        clear he
        go_wp2_with fail
        go_quiet (fail)
        go_wp2_with fail
        go_ret
        refine ⟨?_, q + nq, by rw [World.drewN_drewN]⟩
        rw [allEq_false hkn HE.out]
        rfl
    · have : k = n := by omega
      subst this
      go_wp2
      go_ret
      refine ⟨?_, q, rfl⟩
      rw [allEq_true hE.out]
      rfl
theorem sameInts_any (a b : Option Addr) (n m c c' : Nat) (f g : Nat → Int) (w : World) (hn : n ≤ 100000) (hm : m ≤ 100000) (ha : Rows' .i64 w a n f) (hb : Rows' .i64 w b m g) :
    Calls Try.prog 17 #[.slice a n c, .slice b m c'] w fun e w' => e = .returned (.bool (decide (n = m) && allEq n f g)) ∧ ∃ q, w' = w.drewN q := by
  by_cases h : n = m
  · subst h
    simp only [decide_true, Bool.true_and]
    exact sameInts_eq a b n c c' f g w hn ha hb
  · simp only [h, decide_false, Bool.false_and]
    exact sameInts_len a b n m c c' w hn hm h
/-- is x among the numbers? -/
theorem hasInt_any (a : Option Addr) (n c : Nat) (f : Nat → Int) (x : Int) (w : World) (hn : n ≤ 100000) (ha : Rows' .i64 w a n f) :
    Calls Try.prog 14 #[.slice a n c, .int .i64 x] w fun e w' => e = .returned (.bool (decide (∃ j, j < n ∧ f j = x))) ∧ w' = w := by
  have HA := hidden ha
  clear ha
  go_enter Try.func14, Try.ntmps14
  go_wp2
  go_loop [5] (fun i => ∃ k : Nat, k ≤ n ∧ i = .int .i64 (k : Int) ∧ Hid (∀ j, j < k → f j ≠ x)) (fun i => n - (intOf i).toNat)
  case atStart => exact ⟨0, by omega, rfl, fun j hj => by omega⟩
  case round =>
    obtain ⟨k, hk, rfl, hE⟩ := hrel
    by_cases hkn : k < n
    · have hki : (k : Int) < (n : Int) := by omega
      obtain ⟨b, off, rfl, hlt, hc⟩ := HA.out (by omega)
      have hcell := hc k hkn
      clear hc
      by_cases he : f k = x
      · have he' : (f k == x) = true := by simp [he]
        have HE := hidden he
        clear he
        go_wp2_with fail
        go_ret
        refine ⟨?_, rfl⟩
        rw [decide_eq_true (⟨k, hkn, HE.out⟩ : ∃ j, j < n ∧ f j = x)]
        rfl
      · have he' : (f k == x) = false := by simp [he]
        have HE := hidden he
        clear he
        go_wp2_with fail
        go_round
        case rel => exact ⟨k + 1, by omega, by go_num, fun j hj => by
          rcases Nat.lt_or_ge j k with h | h
          · exact hE j h
          · rw [show j = k by omega]; exact HE⟩
        case measure => simp [intOf]; omega
    · have : k = n := by omega
      subst this
      go_wp2
      go_ret
      refine ⟨?_, rfl⟩
      rw [decide_eq_false (fun ⟨j, hj, h⟩ => hE.out j hj h)]
      rfl
theorem ints_any (a : Option Addr) (n c : Nat) (f : Nat → Int) (w : World) (hn : n ≤ 100000) (hc : a = none → n = 0 ∧ c = 0) (hr : Rows' .i64 w a n f) :
    Calls Try.prog 20 #[.slice a n c] w fun e w' => ∃ v, e = .returned v ∧ Built w w' v (cellsOf .i64 n f) ∧ v ≠ .slice none 0 0 := by
  have HR := hidden hr
  have HC := hidden hc
  clear hr hc
  go_enter Try.func20, Try.ntmps20
  go_wp2_with (at_builtin; refine wpList_whole rfl (.tmp 3) (.tmp 4) 28 28 3 .i64 Try.underlying28 Try.underlying28 infoI rfl w _ _ 0 [] a n c f rfl rfl (own_start w _) (below_start w _) (HR.out.below (below_start w _)) HC.out (by omega) (by omega) (fun h => by cases h) ?_; intro v1 w1 hown1 hbel1 hv1)
  have HO := hidden hown1
  have HB := hidden hbel1
  have HV := hidden hv1
  clear hown1 hbel1 hv1
  go_wp2_with fail
  go_ret
  have h1 := HO.out
  rw [Nat.zero_add, List.nil_append] at h1
  exact ⟨v1, rfl, ⟨by rw [cellsOf_length]; exact h1, HB.out⟩, HV.out⟩
set_option maxHeartbeats 1600000 in
theorem sorted_any (a : Option Addr) (n c : Nat) (f : Nat → Int) (w : World) (hn : n ≤ 50000) (ha : Rows' .i64 w a n f) :
    Calls Try.prog 18 #[.slice a n c] w fun e w' => ∃ v, e = .returned v ∧ Built w w' v (srt f n) := by
  have HX := hidden ha
  clear ha
  go_enter Try.func18, Try.ntmps18
  go_wp2_with fail
  go_loopw [3, 4] (fun v i wr => ∃ k : Nat, k ≤ n ∧ i = .int .i64 (k : Int) ∧ Hid (Built w wr v (srt f k)) ∧ Hid (v ≠ .slice none 0 0)) (fun _ i _ => n - (intOf i).toNat)
  case atStart => exact ⟨0, by omega, rfl, Built.start w _ rfl, fun h => by cases h⟩
  case round =>
    obtain ⟨k, hk, rfl, hB, hNN⟩ := hrel
    by_cases hkn : k < n
    · obtain ⟨bb, off, rfl, hlt, hc⟩ := HX.out (by omega)
      have hcell : wr.cell? ⟨bb, off + k, none⟩ = some (.int .i64 (f k)) := (hB.out.below.cell (p := ⟨bb, off + k, none⟩) hlt).trans (hc k hkn)
      clear hc
      have hki : (k : Int) < (n : Int) := by omega
      have hlen := srt_length f k
      have hsucc : srt f (k + 1) = if f k ∈ srt f k then srt f k else ins (srt f k) (f k) := rfl
      obtain ⟨xs, hxs⟩ : ∃ xs, xs = srt f k := ⟨_, rfl⟩
      rw [← hxs] at hB hlen hsucc
      have HXS := hidden hxs
      clear hxs
      obtain ⟨a3, cap3, rfl, hR3, hn3, hc3⟩ := hB.out.shape
      have HR3 := hidden hR3
      have HN3 := hidden hn3
      clear hR3 hn3
      obtain ⟨L, hL⟩ : ∃ L, L = xs.length := ⟨_, rfl⟩
      rw [← hL] at hlen hc3 HR3 HN3
      rw [← hL]
      have HL := hidden hL
      clear hL
      obtain ⟨x, hx⟩ : ∃ x, x = f k := ⟨_, rfl⟩
      rw [← hx] at hcell hsucc
      clear hx
      go_wp2_with fail
      refine (hasInt_any a3 L cap3 (fun j => xs.getD j 0) x _ (by omega) HR3.out).mono ?_
      rintro e w1 ⟨rfl, hw1⟩
      rw [hw1]
      clear hw1 w1
      have hdec : decide (∃ j, j < L ∧ xs.getD j 0 = x) = decide (x ∈ xs) := by
        rw [HL.out]; exact decide_eq_decide.2 in_list
      by_cases hmem : x ∈ xs
      · rw [hdec, decide_eq_true hmem]
        rw [if_pos hmem] at hsucc
        have HS := hidden hsucc
        clear hsucc hdec hmem
        go_wp2_with fail
        go_roundw
        case rel => exact ⟨k + 1, by omega, by go_num, by rw [HS.out, HL.out]; exact hB, by rw [HL.out]; exact hNN⟩
        case measure => simp [intOf]; omega
      · rw [hdec, decide_eq_false hmem]
        rw [if_neg hmem] at hsucc
        have HS := hidden hsucc
        clear hsucc hdec hmem
        obtain ⟨wo, rfl⟩ : ∃ wo, wo = wr := ⟨_, rfl⟩
        have hpl := pre_le xs x
        rw [← HL.out] at hpl
        have HC0 := hidden hcell
        clear hcell
        go_wp2_with fail
        go_loopw [5, 6] (fun nv kk wi => ∃ j : Nat, j ≤ pre xs x ∧ kk = .int .i64 (j : Int) ∧ Hid (Built wo wi nv (xs.take j))) (fun _ kk _ => pre xs x - (intOf kk).toNat)
        case atStart => exact ⟨0, by omega, rfl, Built.start wo _ rfl⟩
        case round =>
          obtain ⟨j, hj, rfl, hBi⟩ := hrel
          have hcell : wr.cell? ⟨bb, off + k, none⟩ = some (.int .i64 x) := (hBi.out.below.cell (p := ⟨bb, off + k, none⟩) (Nat.lt_of_lt_of_le hlt hB.out.below.size)).trans HC0.out
          have hjl : (xs.take j).length = j := by rw [List.length_take, ← HL.out]; omega
          have HJL := hidden hjl
          clear hjl
          by_cases hjp : j < pre xs x
          · have hp := pre_lt xs x j hjp
            rw [← HL.out] at hp
            obtain ⟨b3, off3, rfl, hlt3, hc3'⟩ := HR3.out (by omega)
            have hcell3 : wr.cell? ⟨b3, off3 + j, none⟩ = some (.int .i64 (xs.getD j 0)) := (hBi.out.below.cell (p := ⟨b3, off3 + j, none⟩) hlt3).trans (hc3' j hp.1)
            clear hc3'
            have hp1 : (j : Int) < (L : Int) := by omega
            obtain ⟨y, hy⟩ : ∃ y, y = xs.getD j 0 := ⟨_, rfl⟩
            have hp2 : y < x := by rw [hy]; exact hp.2
            have htake : xs.take (j + 1) = xs.take j ++ [y] := by rw [hy]; exact take_getD xs j (by rw [← HL.out]; exact hp.1)
            rw [← hy] at hcell3
            have HTK := hidden htake
            clear htake hy hp
            go_wp2_with fail
            go_quiet (fail)
            obtain ⟨wq, hwq⟩ : ∃ wq, wq = wr.drewN nq := ⟨_, rfl⟩
            have hcq : wq.cell? ⟨b3, off3 + j, none⟩ = some (.int .i64 y) := by rw [hwq]; exact hcell3
            have HBq := hidden (hBi.out.drewN nq)
            rw [← hwq] at HBq
            rw [← hwq]
            clear hwq hcell3 hcell
            go_wp2_with (at_builtin; refine wpList_push rfl (.tmp 39) (.tmp 44) rfl wo _ _ _ _ rfl rfl HBq.out (by rw [HJL.out]; omega) ?_; intro v1 w1 hb1)
            have HB1 := hidden hb1
            clear hb1
            go_wp2_with fail
            go_roundw
            case rel => exact ⟨j + 1, by omega, by go_num, by rw [HTK.out]; exact HB1⟩
            case measure => simp [intOf]; omega
          · have hje : j = pre xs x := by omega
            have hst := pre_stop xs x
            rw [← hje, ← HL.out] at hst
            have HJE := hidden hje
            clear hje
            obtain ⟨a5, cap5, rfl, _, _, _⟩ := hBi.out.shape
            rw [HJL.out]
            rw [HJL.out] at hBi
            by_cases hjL : j < L
            · obtain ⟨b3, off3, rfl, hlt3, hc3'⟩ := HR3.out (by omega)
              have hcell3 : wr.cell? ⟨b3, off3 + j, none⟩ = some (.int .i64 (xs.getD j 0)) := (hBi.out.below.cell (p := ⟨b3, off3 + j, none⟩) hlt3).trans (hc3' j hjL)
              clear hc3'
              have hp1 : (j : Int) < (L : Int) := by omega
              obtain ⟨y, hy⟩ : ∃ y, y = xs.getD j 0 := ⟨_, rfl⟩
              have hp2 : ¬ y < x := by rw [hy]; exact fun h => hst ⟨hjL, h⟩
              rw [← hy] at hcell3
              clear hy hst
              go_wp2_with fail
              go_quiet (fail)
              obtain ⟨wq, hwq⟩ : ∃ wq, wq = wr.drewN nq := ⟨_, rfl⟩
              have hcq : wq.cell? ⟨bb, off + k, none⟩ = some (.int .i64 x) := by rw [hwq]; exact hcell
              have HBq : Hid (Built wo wq (.slice a5 j cap5) (xs.take j)) := by rw [hwq]; exact hBi.out.drewN nq
              rw [← hwq]
              clear hwq hcell3 hcell
              go_wp2_with (first
                | (at_builtin; refine wpList_push rfl (.tmp 48) (.tmp 53) rfl wo _ _ _ _ rfl rfl HBq.out (by rw [HJL.out]; omega) ?_; intro v1 w1 hb1)
                | (at_builtin; (refine wpList_whole rfl (.tmp 55) (.tmp 58) 28 28 3 .i64 Try.underlying28 Try.underlying28 infoI rfl wo _ _ (xs.take j ++ [x]).length (xs.take j ++ [x]) (some ⟨b3, off3 + j, none⟩) (L - j) _ (fun t => xs.getD (j + t) 0) rfl rfl hb1.1 hb1.2 (Rows'.cut (HR3.out.below hb1.below)) (fun h => by cases h) (by omega) (by rw [List.length_append, HJL.out]; simp; omega) (hb1.notnil (by simp)) ?_); intro v2 w2 hown2 hbel2 hv2))
              have HB2 := hidden ((ins_built HJE.out HL.out hown2 hbel2).widen hB.out.below)
              have HV2 := hidden hv2
              clear hown2 hbel2 hb1 hv2
              go_wp2_with fail
              go_roundw
              case rel => exact ⟨k + 1, by omega, by go_num, by rw [HS.out]; exact HB2, HV2⟩
              case measure => simp [intOf]; omega
            · have hjL' : j = L := by omega
              have hp1 : ¬ (j : Int) < (L : Int) := by omega
              have hd : decide ((j : Int) < (L : Int)) = false := decide_eq_false hp1
              have HJ := hidden hjL'
              clear hst hjL'
              rcases a3 with _ | ad3
              · obtain ⟨hL0, hcap0⟩ := HN3.out rfl
                exact absurd (show Value.slice none xs.length cap3 = .slice none 0 0 by rw [← HL.out, hL0, hcap0]) hNN.out
              · skip
                go_wp2_with fail
                go_quiet (fail)
                obtain ⟨wq, hwq⟩ : ∃ wq, wq = wr.drewN nq := ⟨_, rfl⟩
                have hcq : wq.cell? ⟨bb, off + k, none⟩ = some (.int .i64 x) := by rw [hwq]; exact hcell
                have HBq : Hid (Built wo wq (.slice a5 j cap5) (xs.take j)) := by rw [hwq]; exact hBi.out.drewN nq
                rw [← hwq]
                clear hwq hcell
                go_wp2_with (first
                  | (at_builtin; refine wpList_push rfl (.tmp 48) (.tmp 53) rfl wo _ _ _ _ rfl rfl HBq.out (by rw [HJL.out]; omega) ?_; intro v1 w1 hb1)
                  | (at_builtin; (refine wpList_whole rfl (.tmp 55) (.tmp 58) 28 28 3 .i64 Try.underlying28 Try.underlying28 infoI rfl wo _ _ (xs.take j ++ [x]).length (xs.take j ++ [x]) _ (L - j) _ (fun t => xs.getD (j + t) 0) rfl rfl hb1.1 hb1.2 (fun h => absurd h (by have := HJ.out; omega)) (fun h => by first | (cases h) | (split at h <;> cases h)) (by omega) (by rw [List.length_append, HJL.out]; simp; omega) (hb1.notnil (by simp)) ?_); intro v2 w2 hown2 hbel2 hv2))
                have HB2 := hidden ((ins_built HJE.out HL.out hown2 hbel2).widen hB.out.below)
                have HV2 := hidden hv2
                clear hown2 hbel2 hb1 hv2
                go_wp2_with fail
                go_roundw
                case rel => exact ⟨k + 1, by omega, by go_num, by rw [HS.out]; exact HB2, HV2⟩
                case measure => simp [intOf]; omega
    · have : k = n := by omega
      subst this
      go_wp2
      go_ret
      exact ⟨_, rfl, hB.out⟩
theorem hasInt_list (a : Option Addr) (L cap : Nat) (xs : List Int) (x : Int) (w : World) (hL : L = xs.length) (hn : L ≤ 100000) (ha : Rows' .i64 w a L (fun j => xs.getD j 0)) :
    Calls Try.prog 14 #[.slice a L cap, .int .i64 x] w fun e w' => e = .returned (.bool (decide (x ∈ xs))) ∧ w' = w := by
  refine (hasInt_any a L cap _ x w hn ha).mono ?_
  rintro e w1 ⟨rfl, hw1⟩
  refine ⟨?_, hw1⟩
  rw [hL]
  congr 2
  exact decide_eq_decide.2 in_list
theorem sameInts_list (a b : Option Addr) (n m c c' : Nat) (xs ys : List Int) (w : World) (hx : n = xs.length) (hy : m = ys.length) (hn : n ≤ 100000) (hm : m ≤ 100000) (ha : Rows' .i64 w a n (fun j => xs.getD j 0)) (hb : Rows' .i64 w b m (fun j => ys.getD j 0)) :
    Calls Try.prog 17 #[.slice a n c, .slice b m c'] w fun e w' => e = .returned (.bool (decide (xs = ys))) ∧ ∃ q, w' = w.drewN q := by
  refine (sameInts_any a b n m c c' _ _ w hn hm ha hb).mono ?_
  rintro e w1 ⟨rfl, hw1⟩
  refine ⟨?_, hw1⟩
  rw [hx, hy, list_eqB]

end Go.Proofs.Ytingebjeefncaaa
