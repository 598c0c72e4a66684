/- The walk through PlaceTells: over every text, place, line and column it answers true. -/
import Derived.Test.YtbfejllcdalnhaaPlaceRef
namespace Go.Proofs.Ytbfejllcdalnhaa
open Go.RowKit
set_option linter.unusedVariables false

theorem below_then {w w1 w2 : World} (h : Below w.heap.size w w1) (k : Below w1.heap.size w1 w2) : Below w.heap.size w w2 := h.trans (k.mono h.size)
theorem tells_long (s : ByteArray) (x line column : Int) (w : World) (hs : 200 < s.size) :
    Calls Try.prog 3 #[.string s, .int .i64 x, .int .i64 line, .int .i64 column] w fun e w' => e = .returned (.bool true) ∧ Below w.heap.size w w' := by
  have hs' : (200 : Int) < (s.size : Int) := by omega
  go_enter Try.func3, Try.ntmps3
  go_wp2_with fail
  refine (works_true w).mono ?_
  rintro e w1 ⟨rfl, hb⟩
  have HB := hidden hb
  clear hb
  go_wp2_with fail
  go_ret
  exact ⟨rfl, HB.out⟩
/-- the table's cell of a line -/
theorem lns_cell {l : List UInt8} {t : Nat} (h : isEnd l t) : ((lns l).map txt)[nl l t]? = some (txt (cut l (st l t) t)) := by
  rw [List.getElem?_map, lns_get h]; rfl
set_option maxRecDepth 100000 in
set_option maxHeartbeats 4000000 in
theorem tells_has (s : ByteArray) (x column : Int) (k : Nat) (w : World) (hs : s.size ≤ 200) (hk : k ≤ nl s.data.toList s.size) :
    Calls Try.prog 3 #[.string s, .int .i64 x, .int .i64 ((k : Int) + 1), .int .i64 column] w fun e w' => e = .returned (.bool true) ∧ Below w.heap.size w w' := by
  obtain ⟨m, hm⟩ : ∃ m, m = 1 + nl s.data.toList s.size := ⟨_, rfl⟩
  have hm1 : (lns s.data.toList).length = m := by rw [lns_length, hm, length_of]; omega
  have hm0 : 0 < m := by omega
  have hms : m ≤ 201 := by have := nl_le s.data.toList s.size; omega
  have hkm : k < m := by omega
  have HM := hidden hm
  have HM1 := hidden hm1
  have HK := hidden hk
  clear hm hm1 hk
  go_enter Try.func3, Try.ntmps3
  go_wp2_with fail
  refine (p_of s x w (by omega)).mono ?_
  rintro e w1 ⟨rfl, hb⟩
  obtain ⟨a, ha⟩ : ∃ a, a = lnOf s.data.toList x := ⟨_, rfl⟩
  obtain ⟨b, hb'⟩ : ∃ b, b = colOf s.data.toList x := ⟨_, rfl⟩
  obtain ⟨c, hc⟩ : ∃ c, c = isPl s.data.toList x := ⟨_, rfl⟩
  rw [← ha, ← hb', ← hc]
  have HA := hidden ha
  have HB' := hidden hb'
  have HC := hidden hc
  have HW := hidden hb
  clear ha hb' hc hb
  go_wp2_with fail
  refine (r_of s x w1 (by omega)).mono ?_
  rintro e w2 ⟨rfl, hw2⟩
  rw [hw2, ← HA.out, ← HB'.out, ← HC.out]
  clear hw2 w2
  go_wp2_with fail
  refine (p_at s ((k : Int) + 1) column w1 (by omega)).mono ?_
  rintro e w2 ⟨y, u, rfl, hA1, hb⟩
  have HA1 := hidden hA1
  have HW2 := hidden (below_then HW.out hb)
  clear hA1 hb HW
  go_wp2_with fail
  refine (r_at s ((k : Int) + 1) column w2 (by omega)).mono ?_
  rintro e w3 ⟨⟨y', u', rfl, hA2⟩, hw3⟩
  obtain ⟨rfl, rfl⟩ := HA1.out.uniq hA2
  rw [hw3]
  clear hw3 hA2 w3
  go_wp2_with fail
  refine (r_lines s w2 (by omega)).mono ?_
  rintro e w3 ⟨v, rfl, hV⟩
  rw [HM1.out] at hV
  obtain ⟨aL, cap, rfl, hcap, hcells⟩ := hV.shape
  obtain ⟨g, rfl, hg, hcell⟩ := hcells (by omega)
  have HW3 := hidden (below_then HW2.out hV.below)
  have HCELL := hidden hcell
  have HG := hidden hg
  clear hV hcells hcell hg HW2
  go_wp2_with fail
  refine (p_line_some s ((k : Int) + 1) w3 (by omega) (by omega) (by have := HK.out; omega)).mono ?_
  rintro e w4 ⟨t, rfl, hE, hk, hb⟩
  have hkt : nl s.data.toList t = k := by omega
  obtain ⟨X, hX⟩ : ∃ X, X = (⟨(cut s.data.toList (st s.data.toList t) t).toArray⟩ : ByteArray) := ⟨_, rfl⟩
  have hc4 : w4.cell? ⟨g, k, none⟩ = some (.string X) := by
    rw [hb.cell (p := ⟨g, k, none⟩) HG.out, HCELL.out k _ (hkt ▸ lns_cell hE), hX]
    rfl
  rw [← hX]
  have HW4 := hidden (below_then HW3.out hb)
  clear hX hb hE hk hkt HW3 HCELL
  have hki : (k : Int) + 1 ≤ (m : Int) := by omega
  go_wp2_with fail
  refine (p_lines s w4 (by omega)).mono ?_
  rintro e w5 ⟨rfl, hb⟩
  rw [← HM.out]
  have HW5 := hidden (below_then HW4.out hb)
  clear hb HW4
  go_wp2_with fail
  refine (works_true w5).mono ?_
  rintro e w6 ⟨rfl, hb⟩
  have HW6 := hidden (below_then HW5.out hb)
  clear hb HW5
  go_wp2_with fail
  go_ret
  exact ⟨rfl, HW6.out⟩
set_option maxRecDepth 100000 in
set_option maxHeartbeats 4000000 in
theorem tells_low (s : ByteArray) (x line column : Int) (w : World) (hs : s.size ≤ 200) (hk : line < 1) :
    Calls Try.prog 3 #[.string s, .int .i64 x, .int .i64 line, .int .i64 column] w fun e w' => e = .returned (.bool true) ∧ Below w.heap.size w w' := by
  obtain ⟨m, hm⟩ : ∃ m, m = 1 + nl s.data.toList s.size := ⟨_, rfl⟩
  have hm1 : (lns s.data.toList).length = m := by rw [lns_length, hm, length_of]; omega
  have hm0 : 0 < m := by omega
  have hms : m ≤ 201 := by have := nl_le s.data.toList s.size; omega
  have hk' : ¬ 1 ≤ line := by omega
  have HM := hidden hm
  have HM1 := hidden hm1
  have HK := hidden hk
  clear hm hm1 hk
  go_enter Try.func3, Try.ntmps3
  go_wp2_with fail
  refine (p_of s x w (by omega)).mono ?_
  rintro e w1 ⟨rfl, hb⟩
  obtain ⟨a, ha⟩ : ∃ a, a = lnOf s.data.toList x := ⟨_, rfl⟩
  obtain ⟨b, hb'⟩ : ∃ b, b = colOf s.data.toList x := ⟨_, rfl⟩
  obtain ⟨c, hc⟩ : ∃ c, c = isPl s.data.toList x := ⟨_, rfl⟩
  rw [← ha, ← hb', ← hc]
  have HA := hidden ha
  have HB' := hidden hb'
  have HC := hidden hc
  have HW := hidden hb
  clear ha hb' hc hb
  go_wp2_with fail
  refine (r_of s x w1 (by omega)).mono ?_
  rintro e w2 ⟨rfl, hw2⟩
  rw [hw2, ← HA.out, ← HB'.out, ← HC.out]
  clear hw2 w2
  go_wp2_with fail
  refine (p_at s line column w1 (by omega)).mono ?_
  rintro e w2 ⟨y, u, rfl, hA1, hb⟩
  have HA1 := hidden hA1
  have HW2 := hidden (below_then HW.out hb)
  clear hA1 hb HW
  go_wp2_with fail
  refine (r_at s line column w2 (by omega)).mono ?_
  rintro e w3 ⟨⟨y', u', rfl, hA2⟩, hw3⟩
  obtain ⟨rfl, rfl⟩ := HA1.out.uniq hA2
  rw [hw3]
  clear hw3 hA2 w3
  go_wp2_with fail
  refine (r_lines s w2 (by omega)).mono ?_
  rintro e w3 ⟨v, rfl, hV⟩
  rw [HM1.out] at hV
  obtain ⟨aL, cap, rfl, hcap, hcells⟩ := hV.shape
  obtain ⟨g, rfl, hg, hcell⟩ := hcells (by omega)
  have HW3 := hidden (below_then HW2.out hV.below)
  have HCELL := hidden hcell
  have HG := hidden hg
  clear hV hcells hcell hg HW2
  go_wp2_with fail
  refine (p_line_none s line w3 (by omega) (.inl HK.out)).mono ?_
  rintro e w4 ⟨rfl, hb⟩
  have HW4 := hidden (below_then HW3.out hb)
  clear hb HW3 HCELL
  go_wp2_with fail
  refine (p_lines s w4 (by omega)).mono ?_
  rintro e w5 ⟨rfl, hb⟩
  rw [← HM.out]
  have HW5 := hidden (below_then HW4.out hb)
  clear hb HW4
  go_wp2_with fail
  refine (works_true w5).mono ?_
  rintro e w6 ⟨rfl, hb⟩
  have HW6 := hidden (below_then HW5.out hb)
  clear hb HW5
  go_wp2_with fail
  go_ret
  exact ⟨rfl, HW6.out⟩
set_option maxRecDepth 100000 in
set_option maxHeartbeats 4000000 in
theorem tells_high (s : ByteArray) (x line column : Int) (w : World) (hs : s.size ≤ 200) (hk : 1 ≤ line ∧ (1 + nl s.data.toList s.size : Int) < line) :
    Calls Try.prog 3 #[.string s, .int .i64 x, .int .i64 line, .int .i64 column] w fun e w' => e = .returned (.bool true) ∧ Below w.heap.size w w' := by
  obtain ⟨m, hm⟩ : ∃ m, m = 1 + nl s.data.toList s.size := ⟨_, rfl⟩
  have hm1 : (lns s.data.toList).length = m := by rw [lns_length, hm, length_of]; omega
  have hm0 : 0 < m := by omega
  have hms : m ≤ 201 := by have := nl_le s.data.toList s.size; omega
  have hk' : 1 ≤ line ∧ decide (line ≤ (m : Int)) = false := ⟨hk.1, decide_eq_false (by omega)⟩
  obtain ⟨hk1, hk2⟩ := hk'
  have HM := hidden hm
  have HM1 := hidden hm1
  have HK := hidden hk
  clear hm hm1 hk
  go_enter Try.func3, Try.ntmps3
  go_wp2_with fail
  refine (p_of s x w (by omega)).mono ?_
  rintro e w1 ⟨rfl, hb⟩
  obtain ⟨a, ha⟩ : ∃ a, a = lnOf s.data.toList x := ⟨_, rfl⟩
  obtain ⟨b, hb'⟩ : ∃ b, b = colOf s.data.toList x := ⟨_, rfl⟩
  obtain ⟨c, hc⟩ : ∃ c, c = isPl s.data.toList x := ⟨_, rfl⟩
  rw [← ha, ← hb', ← hc]
  have HA := hidden ha
  have HB' := hidden hb'
  have HC := hidden hc
  have HW := hidden hb
  clear ha hb' hc hb
  go_wp2_with fail
  refine (r_of s x w1 (by omega)).mono ?_
  rintro e w2 ⟨rfl, hw2⟩
  rw [hw2, ← HA.out, ← HB'.out, ← HC.out]
  clear hw2 w2
  go_wp2_with fail
  refine (p_at s line column w1 (by omega)).mono ?_
  rintro e w2 ⟨y, u, rfl, hA1, hb⟩
  have HA1 := hidden hA1
  have HW2 := hidden (below_then HW.out hb)
  clear hA1 hb HW
  go_wp2_with fail
  refine (r_at s line column w2 (by omega)).mono ?_
  rintro e w3 ⟨⟨y', u', rfl, hA2⟩, hw3⟩
  obtain ⟨rfl, rfl⟩ := HA1.out.uniq hA2
  rw [hw3]
  clear hw3 hA2 w3
  go_wp2_with fail
  refine (r_lines s w2 (by omega)).mono ?_
  rintro e w3 ⟨v, rfl, hV⟩
  rw [HM1.out] at hV
  obtain ⟨aL, cap, rfl, hcap, hcells⟩ := hV.shape
  obtain ⟨g, rfl, hg, hcell⟩ := hcells (by omega)
  have HW3 := hidden (below_then HW2.out hV.below)
  have HCELL := hidden hcell
  have HG := hidden hg
  clear hV hcells hcell hg HW2
  go_wp2_with fail
  refine (p_line_none s line w3 (by omega) (.inr HK.out.2)).mono ?_
  rintro e w4 ⟨rfl, hb⟩
  have HW4 := hidden (below_then HW3.out hb)
  clear hb HW3 HCELL
  go_wp2_with fail
  refine (p_lines s w4 (by omega)).mono ?_
  rintro e w5 ⟨rfl, hb⟩
  rw [← HM.out]
  have HW5 := hidden (below_then HW4.out hb)
  clear hb HW4
  go_wp2_with fail
  refine (works_true w5).mono ?_
  rintro e w6 ⟨rfl, hb⟩
  have HW6 := hidden (below_then HW5.out hb)
  clear hb HW5
  go_wp2_with fail
  go_ret
  exact ⟨rfl, HW6.out⟩
theorem tells_walk (s : ByteArray) (x line column : Int) (w : World) (hs : s.size ≤ maxLen) (hx : (Lit.int .i64 x).wf = true) (hl : (Lit.int .i64 line).wf = true) (hc : (Lit.int .i64 column).wf = true) :
    Calls Try.prog 3 #[.string s, .int .i64 x, .int .i64 line, .int .i64 column] w fun e w' => e = .returned (.bool true) ∧ Below w.heap.size w w' := by
  rcases Nat.lt_or_ge 200 s.size with h | h
  · exact tells_long s x line column w h
  · by_cases h1 : 1 ≤ line
    · by_cases h2 : line ≤ (1 + nl s.data.toList s.size : Int)
      · obtain ⟨k, rfl⟩ : ∃ k : Nat, line = (k : Int) + 1 := ⟨(line - 1).toNat, by omega⟩
        exact tells_has s x column k w h (by omega)
      · exact tells_high s x line column w h ⟨h1, by omega⟩
    · exact tells_low s x line column w h (by omega)
end Go.Proofs.Ytbfejllcdalnhaa
