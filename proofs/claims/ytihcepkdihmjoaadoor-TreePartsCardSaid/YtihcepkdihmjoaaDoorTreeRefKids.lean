/- The walks through the reference's exprs and all. -/
import Derived.Test.YtihcepkdihmjoaaDoorTreeNodes
import Derived.Test.YtihcepkdihmjoaaDoorTreeLeaf
namespace Go.Proofs.YtihcepkdihmjoaaDoor
open Go.RowKit
set_option linter.unusedVariables false

/-- the kids are places of the list -/
def InL (l : List Nd) (ks : List Int) : Prop := ∀ j, j < ks.length → ∃ q : Nat, ks.getD j 0 = (q : Int) ∧ q < l.length
/-- their kinds -/
def kd (l : List Nd) (ks : List Int) : List Int := ks.map (fun k => (nd l k.toNat).kind)
theorem kd_length (l : List Nd) (ks : List Int) : (kd l ks).length = ks.length := List.length_map _
theorem kd_get {l : List Nd} {ks : List Int} {j q : Nat} (hj : j < ks.length) (h : ks.getD j 0 = (q : Int)) : (kd l ks).getD j 0 = (nd l q).kind := by
  unfold kd
  rw [List.getD_eq_getElem?_getD, List.getElem?_eq_getElem hj] at h
  rw [List.getD_eq_getElem?_getD, List.getElem?_map, List.getElem?_eq_getElem hj]
  have h' : ks[j] = (q : Int) := h
  show (nd l (ks[j]).toNat).kind = _
  rw [h', Int.toNat_natCast]
/-- a kid: where its number stands, and the node -/
theorem kid_at {w : World} {a ka : Option Addr} {l : List Nd} {ks : List Int} {m j : Nat} (hN : Nodes w a l) (hk : Rows' .i64 w ka m (fun j => ks.getD j 0)) (hI : InL l ks) (hm : m = ks.length) (hj : j < m) :
    ∃ kb ko lb lo q, ka = some ⟨kb, ko, none⟩ ∧ a = some ⟨lb, lo, none⟩ ∧ w.cell? ⟨kb, ko + j, none⟩ = some (.int .i64 ((q : Nat) : Int)) ∧ q < l.length ∧ Cells5 w lb (lo + q * 5) (nd l q) ∧ (kd l ks).getD j 0 = (nd l q).kind ∧ ks.getD j 0 = (q : Int) ∧ lb < w.heap.size ∧ kb < w.heap.size := by
  obtain ⟨q, hq, hlt⟩ := hI j (by omega)
  obtain ⟨kb, ko, rfl, hkb, hc⟩ := hk (by omega)
  obtain ⟨lb, lo, rfl, hlb, h5⟩ := hN.at_ hlt
  have := hc j hj
  simp only [hq] at this
  exact ⟨kb, ko, lb, lo, q, rfl, rfl, this, hlt, h5, kd_get (by omega) hq, hq, hlb, hkb⟩
theorem exprs_bad {ks : List Int} {n k : Nat} (hk : k < n) (hn : n ≤ ks.length) (h : isEx (ks.getD k 0) = false) : exprs ks n = false := by
  have : (ks.take n).all isEx = false := by
    rw [List.all_eq_false]
    have hk' : k < ks.length := by omega
    refine ⟨ks[k], List.mem_take_iff_getElem.2 ⟨k, by omega, rfl⟩, ?_⟩
    rw [List.getD_eq_getElem?_getD, List.getElem?_eq_getElem hk'] at h
    have h' : isEx ks[k] = false := h
    simp [h']
  simp [exprs, this]
theorem exprs_ok {ks : List Int} {n : Nat} (hn : n ≤ ks.length) (h : ∀ k, k < n → isEx (ks.getD k 0) = true) : exprs ks n = true := by
  have : (ks.take n).all isEx = true := by
    rw [List.all_eq_true]
    intro x hx
    obtain ⟨k, hk, rfl⟩ := List.mem_take_iff_getElem.1 hx
    have := h k (by omega)
    rw [List.getD_eq_getElem?_getD, List.getElem?_eq_getElem (by omega)] at this
    exact this
  simp [exprs, this, hn]
theorem exprs_few {ks : List Int} {n : Nat} (hn : ks.length < n) : exprs ks n = false := by
  unfold exprs; rw [decide_eq_false (by omega)]; rfl
theorem exprs_any (a ka : Option Addr) (c kc m n : Nat) (l : List Nd) (ks : List Int) (w : World) (hN : Nodes w a l) (hk : Rows' .i64 w ka m (fun j => ks.getD j 0)) (hI : InL l ks) (hm : m = ks.length) (hml : m ≤ 140737488351232) (hll : l.length ≤ 9223372036854775807) (hn : n ≤ 140737488351232) :
    Calls Tryd.prog 47 #[.slice a l.length c, .slice ka m kc, .int .i64 (n : Int)] w fun e w' => e = .returned (.bool (exprs (kd l ks) n)) ∧ w' = w := by
  have HM := hidden hm
  have HN := hidden hN
  have HK := hidden hk
  have HI := hidden hI
  clear hm hN hk hI
  by_cases hlt : m < n
  · have HB : Hid (exprs (kd l ks) n = false) := exprs_few (by rw [kd_length, ← HM.out]; exact hlt)
    go_enter Tryd.func47, Tryd.ntmps47
    go_wp2_with fail
    go_ret
    exact ⟨by rw [HB.out]; rfl, rfl⟩
  · have HL : Hid (n ≤ (kd l ks).length) := by show n ≤ _; rw [kd_length, ← HM.out]; omega
    obtain ⟨B, hB⟩ : ∃ B, B = exprs (kd l ks) n := ⟨_, rfl⟩
    rw [← hB]
    have HB := hidden hB
    clear hB
    go_enter Tryd.func47, Tryd.ntmps47
    go_wp2_with fail
    go_loop [7] (fun i => ∃ k : Nat, k ≤ n ∧ i = .int .i64 (k : Int) ∧ Hid (∀ j, j < k → isEx ((kd l ks).getD j 0) = true)) (fun i => n - (intOf i).toNat)
    case atStart => exact ⟨0, by omega, rfl, fun j hj => by omega⟩
    case round =>
      obtain ⟨k, hk, rfl, hE⟩ := hrel
      by_cases hkn : k < n
      · obtain ⟨kb, ko, lb, lo, q, rfl, rfl, hc, hq, ⟨h5, _⟩, hkd, _⟩ := kid_at (j := k) HN.out HK.out HI.out HM.out (by omega)
        obtain ⟨K, hK⟩ : ∃ K, K = (nd l q).kind := ⟨_, rfl⟩
        rw [← hK] at h5 hkd
        have HKD := hidden hkd
        clear hK hkd
        go_wp2_with fail
        refine (expr_any K w).mono ?_
        rintro e w1 ⟨rfl, hw1⟩
        rw [hw1]; clear hw1 w1
        cases he : isEx K with
        | true =>
          have HE := hidden he
          clear he
          go_wp2_with fail
          go_round
          case rel => exact ⟨k + 1, by omega, by go_num, fun j hj => by
            rcases Nat.lt_or_ge j k with h | h
            · exact hE.out j h
            · rw [show j = k by omega, HKD.out]; exact HE.out⟩
          case measure => simp [intOf]; omega
        | false =>
          have HE := hidden he
          clear he
          go_wp2_with fail
          go_ret
          exact ⟨by rw [HB.out, exprs_bad hkn HL.out (by rw [HKD.out]; exact HE.out)]; rfl, rfl⟩
      · obtain rfl : k = n := by omega
        go_wp2_with fail
        go_ret
        exact ⟨by rw [HB.out, exprs_ok HL.out hE.out]; rfl, rfl⟩
theorem alls_bad {ks : List Int} {K : Int} {m k : Nat} (hk : k < ks.length) (h : ks.getD k 0 ≠ K) : alls ks K m = false := by
  have : ks.all (fun x => x == K) = false := by
    rw [List.all_eq_false]
    refine ⟨ks[k], List.getElem_mem hk, ?_⟩
    rw [List.getD_eq_getElem?_getD, List.getElem?_eq_getElem hk] at h
    have h' : ks[k] ≠ K := h
    simp [h']
  simp [alls, this]
theorem alls_ok {ks : List Int} {K : Int} {m : Nat} (h : ∀ k, k < ks.length → ks.getD k 0 = K) : alls ks K m = decide (ks.length ≤ m) := by
  have : ks.all (fun x => x == K) = true := by
    rw [List.all_eq_true]
    intro x hx
    obtain ⟨k, hk, rfl⟩ := List.mem_iff_getElem.1 hx
    have := h k hk
    rw [List.getD_eq_getElem?_getD, List.getElem?_eq_getElem hk] at this
    have h' : ks[k] = K := this
    simp [h']
  simp [alls, this]
theorem all_any (a ka : Option Addr) (c kc m n : Nat) (K : Int) (l : List Nd) (ks : List Int) (w : World) (hN : Nodes w a l) (hk : Rows' .i64 w ka m (fun j => ks.getD j 0)) (hI : InL l ks) (hm : m = ks.length) (hml : m ≤ 140737488351232) (hll : l.length ≤ 9223372036854775807) (hn : n ≤ 140737488351232) :
    Calls Tryd.prog 48 #[.slice a l.length c, .slice ka m kc, .int .i64 K, .int .i64 (n : Int)] w fun e w' => e = .returned (.bool (alls (kd l ks) K n)) ∧ w' = w := by
  have HM := hidden hm
  have HN := hidden hN
  have HK := hidden hk
  have HI := hidden hI
  clear hm hN hk hI
  have HL : Hid ((kd l ks).length = m) := by show _ = m; rw [kd_length, ← HM.out]
  obtain ⟨B, hB⟩ : ∃ B, B = alls (kd l ks) K n := ⟨_, rfl⟩
  rw [← hB]
  have HB := hidden hB
  clear hB
  go_enter Tryd.func48, Tryd.ntmps48
  go_wp2_with fail
  go_loop [9] (fun i => ∃ k : Nat, k ≤ m ∧ i = .int .i64 (k : Int) ∧ Hid (∀ j, j < k → (kd l ks).getD j 0 = K)) (fun i => m - (intOf i).toNat)
  case atStart => exact ⟨0, by omega, rfl, fun j hj => by omega⟩
  case round =>
    obtain ⟨k, hk, rfl, hE⟩ := hrel
    by_cases hkn : k < m
    · obtain ⟨kb, ko, lb, lo, q, rfl, rfl, hc, hq, ⟨h5, _⟩, hkd, _⟩ := kid_at (j := k) HN.out HK.out HI.out HM.out (by omega)
      obtain ⟨Z, hZ⟩ : ∃ Z, Z = (nd l q).kind := ⟨_, rfl⟩
      rw [← hZ] at h5 hkd
      have HKD := hidden hkd
      clear hZ hkd
      by_cases he : Z = K
      · have he' : (Z != K) = false := by simp [he]
        have HE := hidden he
        clear he
        go_wp2_with fail
        go_round
        case rel => exact ⟨k + 1, by omega, by go_num, fun j hj => by
          rcases Nat.lt_or_ge j k with h | h
          · exact hE.out j h
          · rw [show j = k by omega, HKD.out]; exact HE.out⟩
        case measure => simp [intOf]; omega
      · have he' : (Z != K) = true := by simp [he]
        have HE := hidden he
        clear he
        go_wp2_with fail
        go_ret
        exact ⟨by rw [HB.out, alls_bad (by rw [HL.out]; exact hkn) (by rw [HKD.out]; exact HE.out)]; rfl, rfl⟩
    · obtain rfl : k = m := by omega
      go_wp2_with fail
      go_ret
      refine ⟨?_, rfl⟩
      rw [HB.out, alls_ok (fun j hj => hE.out j (by rw [HL.out] at hj; exact hj)), HL.out]
      refine congrArg (fun b => Ending.returned (Value.bool b)) ?_
      first | rfl | (rw [Bool.eq_iff_iff]; simp)
end Go.Proofs.YtihcepkdihmjoaaDoor
