/- TreeTabs, TreeLeaf, TreeRefKids, TreeRefKids2, TreeRefKids3, in one text. -/
import Derived.Test.YtagacfcpepoaoaaGreatDoorMGen
import Derived.Test.YtagacfcpepoaoaaGreatDoorMSpec
import Derived.Test.YtagacfcpepoaoaaGreatDoorRows
import Derived.Lib.LaidTab
import Derived.Lib.Tables
import Derived.WalkKit
import Derived.Test.YtagacfcpepoaoaaGreatDoorTreeNd
namespace Go.Proofs.YtagacfcpepoaoaaGreatDoor
open Go.RowKit
set_option linter.unusedVariables false

/-- a text as a value -/
def txt (b : List UInt8) : Value := .string ⟨b.toArray⟩
end Go.Proofs.YtagacfcpepoaoaaGreatDoor

namespace Go.Proofs.YtagacfcpepoaoaaGreatDoor
open Go.RowKit
set_option linter.unusedVariables false

theorem rdigit_any (n : Nat) (w : World) :
    Calls Tryz.prog 74 #[.int .u8 (n : Int)] w fun e w' => e = .returned (.bool (tDg n)) ∧ w' = w := by
  go_enter Tryz.func74, Tryz.ntmps74
  go_wp2
  all_goals go_ret
  all_goals refine ⟨congrArg (fun b => Ending.returned (Value.bool b)) ?_, rfl⟩
  all_goals (rw [Bool.eq_iff_iff]; simp [tDg]; try omega)
theorem rletter_any (n : Nat) (w : World) :
    Calls Tryz.prog 76 #[.int .u8 (n : Int)] w fun e w' => e = .returned (.bool (tLt n)) ∧ w' = w := by
  go_enter Tryz.func76, Tryz.ntmps76
  go_wp2
  all_goals go_ret
  all_goals refine ⟨congrArg (fun b => Ending.returned (Value.bool b)) ?_, rfl⟩
  all_goals (rw [Bool.eq_iff_iff]; simp [tLt]; try omega)
theorem expr_any (n : Int) (w : World) :
    Calls Tryz.prog 83 #[.int .i64 n] w fun e w' => e = .returned (.bool (isEx n)) ∧ w' = w := by
  go_enter Tryz.func83, Tryz.ntmps83
  go_wp2
  all_goals go_ret
  all_goals refine ⟨congrArg (fun b => Ending.returned (Value.bool b)) ?_, rfl⟩
  all_goals (rw [Bool.eq_iff_iff]; simp [isEx]; try omega)
theorem stmt_any (n : Int) (w : World) :
    Calls Tryz.prog 57 #[.int .i64 n] w fun e w' => e = .returned (.bool (isSt n)) ∧ w' = w := by
  go_enter Tryz.func57, Tryz.ntmps57
  go_wp2
  all_goals go_ret
  all_goals refine ⟨congrArg (fun b => Ending.returned (Value.bool b)) ?_, rfl⟩
  all_goals (rw [Bool.eq_iff_iff]; simp [isSt]; try omega)
theorem sgnOf_in {k : Nat} (h : k < 17) : sgnOf (k : Int) = tSigns.getD k [] := by
  unfold sgnOf; rw [if_pos (by omega), Int.toNat_natCast]
theorem kindW_out {op : Int} (h : op < 0 ∨ 4 ≤ op) : kindW op = [] := by
  unfold kindW; rw [if_neg (by omega)]
theorem kindW_in {k : Nat} (h : k < 4) : kindW (k : Int) = tKinds.getD k [] := by
  unfold kindW; rw [if_pos (by omega), Int.toNat_natCast]
theorem rkind_any (k : Int) (w : World) :
    Calls Tryz.prog 30 #[.int .i64 k] w fun e w' => e = .returned (txt (kindW k)) ∧ Below w.heap.size w w' := by
  rcases (show k < 1 ∨ 1 ≤ k by omega) with h | h
  · have HS : Hid (kindW k = []) := by
      rcases (show k < 0 ∨ 0 ≤ k by omega) with g | g
      · exact kindW_out (.inl g)
      · obtain rfl : k = 0 := by omega
        rfl
    go_enter Tryz.func30, Tryz.ntmps30
    go_wp2
    go_ret
    exact ⟨by rw [HS.out]; rfl, (Below.refl _ _).alloc (Nat.le_refl _) _⟩
  · rcases (show 3 < k ∨ k ≤ 3 by omega) with h2 | h2
    · have HS := hidden (kindW_out (op := k) (.inr (by omega)))
      go_enter Tryz.func30, Tryz.ntmps30
      go_wp2
      go_ret
      exact ⟨by rw [HS.out]; rfl, (Below.refl _ _).alloc (Nat.le_refl _) _⟩
    · rcases (show k = 1 ∨ k = 2 ∨ k = 3 by omega) with rfl | rfl | rfl
      all_goals
        go_enter Tryz.func30, Tryz.ntmps30
        go_wp2
        go_ret
        exact ⟨rfl, (Below.refl _ _).alloc (Nat.le_refl _) _⟩
theorem named_any (k : Int) (w : World) :
    Calls Tryz.prog 53 #[.int .i64 k] w fun e w' => e = .returned (.bool (named k)) ∧ Below w.heap.size w w' := by
  go_enter Tryz.func53, Tryz.ntmps53
  go_wp2_with fail
  refine (hasInt_list _ 8 _ [4, 11, 12, 13, 14, 17, 24, 25] k _ rfl (by omega) ?_).mono ?_
  · intro _
    refine ⟨w.heap.size, 0, rfl, by simp, fun j hj => ?_⟩
    have hh := (Held.new w 3 #[.int .i64 4, .int .i64 11, .int .i64 12, .int .i64 13, .int .i64 14, .int .i64 17, .int .i64 24, .int .i64 25])
    rw [Nat.zero_add]
    exact hh.at_ (by
      match j, hj with
      | 0, _ | 1, _ | 2, _ | 3, _ | 4, _ | 5, _ | 6, _ | 7, _ => rfl
      | n + 8, h => omega)
  rintro e w1 ⟨he, hw1⟩
  have he' : e = .returned (.bool (named k)) := he
  subst he'
  clear he
  rw [hw1]; clear hw1 w1
  go_wp2_with fail
  go_ret
  exact ⟨rfl, (Below.refl _ _).alloc (Nat.le_refl _) _⟩
end Go.Proofs.YtagacfcpepoaoaaGreatDoor

namespace Go.Proofs.YtagacfcpepoaoaaGreatDoor
open Go.RowKit
set_option linter.unusedVariables false

/-- the kids are places of the list -/
def InL (l : List Nd) (ks : List Int) : Prop := ∀ j, j < ks.length → ∃ q : Nat, ks.getD j 0 = (q : Int) ∧ q < l.length
/-- their kinds -/
def kd (l : List Nd) (ks : List Int) : List Int := ks.map (fun k => (nd l k.toNat).kind)
theorem kd_length (l : List Nd) (ks : List Int) : (kd l ks).length = ks.length := List.length_map _
theorem kd_get {l : List Nd} {ks : List Int} {j q : Nat} (hj : j < ks.length) (h : ks.getD j 0 = (q : Int)) : (kd l ks).getD j 0 = (nd l q).kind := by
  unfold kd
  rw [List.getD_eq_getElem?_getD, List.getElem?_eq_getElem hj] at h
  rw [List.getD_eq_getElem?_getD, List.getElem?_map, List.getElem?_eq_getElem hj]
  have h' : ks[j] = (q : Int) := h
  show (nd l (ks[j]).toNat).kind = _
  rw [h', Int.toNat_natCast]
/-- a kid: where its number stands, and the node -/
theorem kid_at {w : World} {a ka : Option Addr} {l : List Nd} {ks : List Int} {m j : Nat} (hN : Nodes w a l) (hk : Rows' .i64 w ka m (fun j => ks.getD j 0)) (hI : InL l ks) (hm : m = ks.length) (hj : j < m) :
    ∃ kb ko lb lo q, ka = some ⟨kb, ko, none⟩ ∧ a = some ⟨lb, lo, none⟩ ∧ w.cell? ⟨kb, ko + j, none⟩ = some (.int .i64 ((q : Nat) : Int)) ∧ q < l.length ∧ Cells5 w lb (lo + q * 5) (nd l q) ∧ (kd l ks).getD j 0 = (nd l q).kind ∧ ks.getD j 0 = (q : Int) ∧ lb < w.heap.size ∧ kb < w.heap.size := by
  obtain ⟨q, hq, hlt⟩ := hI j (by omega)
  obtain ⟨kb, ko, rfl, hkb, hc⟩ := hk (by omega)
  obtain ⟨lb, lo, rfl, hlb, h5⟩ := hN.at_ hlt
  have := hc j hj
  simp only [hq] at this
  exact ⟨kb, ko, lb, lo, q, rfl, rfl, this, hlt, h5, kd_get (by omega) hq, hq, hlb, hkb⟩
theorem exprs_bad {ks : List Int} {n k : Nat} (hk : k < n) (hn : n ≤ ks.length) (h : isEx (ks.getD k 0) = false) : exprs ks n = false := by
  have : (ks.take n).all isEx = false := by
    rw [List.all_eq_false]
    have hk' : k < ks.length := by omega
    refine ⟨ks[k], List.mem_take_iff_getElem.2 ⟨k, by omega, rfl⟩, ?_⟩
    rw [List.getD_eq_getElem?_getD, List.getElem?_eq_getElem hk'] at h
    have h' : isEx ks[k] = false := h
    simp [h']
  simp [exprs, this]
theorem exprs_ok {ks : List Int} {n : Nat} (hn : n ≤ ks.length) (h : ∀ k, k < n → isEx (ks.getD k 0) = true) : exprs ks n = true := by
  have : (ks.take n).all isEx = true := by
    rw [List.all_eq_true]
    intro x hx
    obtain ⟨k, hk, rfl⟩ := List.mem_take_iff_getElem.1 hx
    have := h k (by omega)
    rw [List.getD_eq_getElem?_getD, List.getElem?_eq_getElem (by omega)] at this
    exact this
  simp [exprs, this, hn]
theorem exprs_few {ks : List Int} {n : Nat} (hn : ks.length < n) : exprs ks n = false := by
  unfold exprs; rw [decide_eq_false (by omega)]; rfl
theorem exprs_any (a ka : Option Addr) (c kc m n : Nat) (l : List Nd) (ks : List Int) (w : World) (hN : Nodes w a l) (hk : Rows' .i64 w ka m (fun j => ks.getD j 0)) (hI : InL l ks) (hm : m = ks.length) (hml : m ≤ 140737488351232) (hll : l.length ≤ 9223372036854775807) (hn : n ≤ 140737488351232) :
    Calls Tryz.prog 55 #[.slice a l.length c, .slice ka m kc, .int .i64 (n : Int)] w fun e w' => e = .returned (.bool (exprs (kd l ks) n)) ∧ w' = w := by
  have HM := hidden hm
  have HN := hidden hN
  have HK := hidden hk
  have HI := hidden hI
  clear hm hN hk hI
  by_cases hlt : m < n
  · have HB : Hid (exprs (kd l ks) n = false) := exprs_few (by rw [kd_length, ← HM.out]; exact hlt)
    go_enter Tryz.func55, Tryz.ntmps55
    go_wp2_with fail
    go_ret
    exact ⟨by rw [HB.out]; rfl, rfl⟩
  · have HL : Hid (n ≤ (kd l ks).length) := by show n ≤ _; rw [kd_length, ← HM.out]; omega
    obtain ⟨B, hB⟩ : ∃ B, B = exprs (kd l ks) n := ⟨_, rfl⟩
    rw [← hB]
    have HB := hidden hB
    clear hB
    go_enter Tryz.func55, Tryz.ntmps55
    go_wp2_with fail
    go_loop [7] (fun i => ∃ k : Nat, k ≤ n ∧ i = .int .i64 (k : Int) ∧ Hid (∀ j, j < k → isEx ((kd l ks).getD j 0) = true)) (fun i => n - (intOf i).toNat)
    case atStart => exact ⟨0, by omega, rfl, fun j hj => by omega⟩
    case round =>
      obtain ⟨k, hk, rfl, hE⟩ := hrel
      by_cases hkn : k < n
      · obtain ⟨kb, ko, lb, lo, q, rfl, rfl, hc, hq, ⟨h5, _⟩, hkd, _⟩ := kid_at (j := k) HN.out HK.out HI.out HM.out (by omega)
        obtain ⟨K, hK⟩ : ∃ K, K = (nd l q).kind := ⟨_, rfl⟩
        rw [← hK] at h5 hkd
        have HKD := hidden hkd
        clear hK hkd
        go_wp2_with fail
        refine (expr_any K w).mono ?_
        rintro e w1 ⟨rfl, hw1⟩
        rw [hw1]; clear hw1 w1
        cases he : isEx K with
        | true =>
          have HE := hidden he
          clear he
          go_wp2_with fail
          go_round
          case rel => exact ⟨k + 1, by omega, by go_num, fun j hj => by
            rcases Nat.lt_or_ge j k with h | h
            · exact hE.out j h
            · rw [show j = k by omega, HKD.out]; exact HE.out⟩
          case measure => simp [intOf]; omega
        | false =>
          have HE := hidden he
          clear he
          go_wp2_with fail
          go_ret
          exact ⟨by rw [HB.out, exprs_bad hkn HL.out (by rw [HKD.out]; exact HE.out)]; rfl, rfl⟩
      · obtain rfl : k = n := by omega
        go_wp2_with fail
        go_ret
        exact ⟨by rw [HB.out, exprs_ok HL.out hE.out]; rfl, rfl⟩
theorem alls_bad {ks : List Int} {K : Int} {m k : Nat} (hk : k < ks.length) (h : ks.getD k 0 ≠ K) : alls ks K m = false := by
  have : ks.all (fun x => x == K) = false := by
    rw [List.all_eq_false]
    refine ⟨ks[k], List.getElem_mem hk, ?_⟩
    rw [List.getD_eq_getElem?_getD, List.getElem?_eq_getElem hk] at h
    have h' : ks[k] ≠ K := h
    simp [h']
  simp [alls, this]
theorem alls_ok {ks : List Int} {K : Int} {m : Nat} (h : ∀ k, k < ks.length → ks.getD k 0 = K) : alls ks K m = decide (ks.length ≤ m) := by
  have : ks.all (fun x => x == K) = true := by
    rw [List.all_eq_true]
    intro x hx
    obtain ⟨k, hk, rfl⟩ := List.mem_iff_getElem.1 hx
    have := h k hk
    rw [List.getD_eq_getElem?_getD, List.getElem?_eq_getElem hk] at this
    have h' : ks[k] = K := this
    simp [h']
  simp [alls, this]
theorem all_any (a ka : Option Addr) (c kc m n : Nat) (K : Int) (l : List Nd) (ks : List Int) (w : World) (hN : Nodes w a l) (hk : Rows' .i64 w ka m (fun j => ks.getD j 0)) (hI : InL l ks) (hm : m = ks.length) (hml : m ≤ 140737488351232) (hll : l.length ≤ 9223372036854775807) (hn : n ≤ 140737488351232) :
    Calls Tryz.prog 56 #[.slice a l.length c, .slice ka m kc, .int .i64 K, .int .i64 (n : Int)] w fun e w' => e = .returned (.bool (alls (kd l ks) K n)) ∧ w' = w := by
  have HM := hidden hm
  have HN := hidden hN
  have HK := hidden hk
  have HI := hidden hI
  clear hm hN hk hI
  have HL : Hid ((kd l ks).length = m) := by show _ = m; rw [kd_length, ← HM.out]
  obtain ⟨B, hB⟩ : ∃ B, B = alls (kd l ks) K n := ⟨_, rfl⟩
  rw [← hB]
  have HB := hidden hB
  clear hB
  go_enter Tryz.func56, Tryz.ntmps56
  go_wp2_with fail
  go_loop [9] (fun i => ∃ k : Nat, k ≤ m ∧ i = .int .i64 (k : Int) ∧ Hid (∀ j, j < k → (kd l ks).getD j 0 = K)) (fun i => m - (intOf i).toNat)
  case atStart => exact ⟨0, by omega, rfl, fun j hj => by omega⟩
  case round =>
    obtain ⟨k, hk, rfl, hE⟩ := hrel
    by_cases hkn : k < m
    · obtain ⟨kb, ko, lb, lo, q, rfl, rfl, hc, hq, ⟨h5, _⟩, hkd, _⟩ := kid_at (j := k) HN.out HK.out HI.out HM.out (by omega)
      obtain ⟨Z, hZ⟩ : ∃ Z, Z = (nd l q).kind := ⟨_, rfl⟩
      rw [← hZ] at h5 hkd
      have HKD := hidden hkd
      clear hZ hkd
      by_cases he : Z = K
      · have he' : (Z != K) = false := by simp [he]
        have HE := hidden he
        clear he
        go_wp2_with fail
        go_round
        case rel => exact ⟨k + 1, by omega, by go_num, fun j hj => by
          rcases Nat.lt_or_ge j k with h | h
          · exact hE.out j h
          · rw [show j = k by omega, HKD.out]; exact HE.out⟩
        case measure => simp [intOf]; omega
      · have he' : (Z != K) = true := by simp [he]
        have HE := hidden he
        clear he
        go_wp2_with fail
        go_ret
        exact ⟨by rw [HB.out, alls_bad (by rw [HL.out]; exact hkn) (by rw [HKD.out]; exact HE.out)]; rfl, rfl⟩
    · obtain rfl : k = m := by omega
      go_wp2_with fail
      go_ret
      refine ⟨?_, rfl⟩
      rw [HB.out, alls_ok (fun j hj => hE.out j (by rw [HL.out] at hj; exact hj)), HL.out]
      refine congrArg (fun b => Ending.returned (Value.bool b)) ?_
      first | rfl | (rw [Bool.eq_iff_iff]; simp)
end Go.Proofs.YtagacfcpepoaoaaGreatDoor

namespace Go.Proofs.YtagacfcpepoaoaaGreatDoor
open Go.RowKit
set_option linter.unusedVariables false

theorem exprs_lit (a ka : Option Addr) (c kc m n : Nat) (z : Int) (l : List Nd) (ks : List Int) (w : World) (hN : Nodes w a l) (hk : Rows' .i64 w ka m (fun j => ks.getD j 0)) (hI : InL l ks) (hm : m = ks.length) (hml : m ≤ 140737488351232) (hll : l.length ≤ 9223372036854775807) (hn : n ≤ 140737488351232) (hz : z = (n : Int)) :
    Calls Tryz.prog 55 #[.slice a l.length c, .slice ka m kc, .int .i64 z] w fun e w' => e = .returned (.bool (exprs (kd l ks) n)) ∧ w' = w := by
  subst hz; exact exprs_any a ka c kc m n l ks w hN hk hI hm hml hll hn
theorem all_lit (a ka : Option Addr) (c kc m n : Nat) (K z : Int) (l : List Nd) (ks : List Int) (w : World) (hN : Nodes w a l) (hk : Rows' .i64 w ka m (fun j => ks.getD j 0)) (hI : InL l ks) (hm : m = ks.length) (hml : m ≤ 140737488351232) (hll : l.length ≤ 9223372036854775807) (hn : n ≤ 140737488351232) (hz : z = (n : Int)) :
    Calls Tryz.prog 56 #[.slice a l.length c, .slice ka m kc, .int .i64 K, .int .i64 z] w fun e w' => e = .returned (.bool (alls (kd l ks) K n)) ∧ w' = w := by
  subst hz; exact all_any a ka c kc m n K l ks w hN hk hI hm hml hll hn
theorem rows_drop {w : World} {ka : Option Addr} {m d : Nat} {ks : List Int} (h : Rows' .i64 w ka m (fun j => ks.getD j 0)) : Rows' .i64 w (Option.map (fun x => (⟨x.block, x.off + d, none⟩ : Addr)) ka) (m - d) (fun j => (ks.drop d).getD j 0) := by
  intro hp
  obtain ⟨b, off, rfl, hlt, hc⟩ := h (by omega)
  refine ⟨b, off + d, rfl, hlt, fun j hj => ?_⟩
  simp only [drop_get, Nat.add_assoc]
  exact hc (d + j) (by omega)
theorem rows_take {w : World} {ka : Option Addr} {m d : Nat} {ks : List Int} (h : Rows' .i64 w ka m (fun j => ks.getD j 0)) (hd : d ≤ m) : Rows' .i64 w ka d (fun j => (ks.take d).getD j 0) := by
  intro hp
  obtain ⟨b, off, rfl, hlt, hc⟩ := h (by omega)
  refine ⟨b, off, rfl, hlt, fun j hj => ?_⟩
  simp only [take_get ks d j hj]
  exact hc j (by omega)
theorem InL.drop {l : List Nd} {ks : List Int} (h : InL l ks) (d : Nat) : InL l (ks.drop d) := by
  intro j hj
  rw [List.length_drop] at hj
  obtain ⟨q, h1, h2⟩ := h (d + j) (by omega)
  exact ⟨q, by rw [drop_get]; exact h1, h2⟩
theorem InL.take {l : List Nd} {ks : List Int} (h : InL l ks) (d : Nat) : InL l (ks.take d) := by
  intro j hj
  rw [List.length_take] at hj
  obtain ⟨q, h1, h2⟩ := h j (by omega)
  exact ⟨q, by rw [take_get ks d j (by omega)]; exact h1, h2⟩
theorem kd_drop (l : List Nd) (ks : List Int) (d : Nat) : (kd l ks).drop d = kd l (ks.drop d) := by unfold kd; rw [List.map_drop]
theorem kd_take (l : List Nd) (ks : List Int) (d : Nat) : (kd l ks).take d = kd l (ks.take d) := by unfold kd; rw [List.map_take]
set_option maxRecDepth 100000 in
set_option maxHeartbeats 2000000 in
theorem kids_5 (a : Option Addr) (c : Nat) (l : List Nd) (ka : Option Addr) (kc m : Nat) (ks : List Int) (n : Int) (s : ByteArray) (at_ : Int) (w : World) (hN : Nodes w a l) (hk : Rows' .i64 w ka m (fun j => ks.getD j 0)) (hcap : m ≤ kc) (hI : InL l ks) (hm : m = ks.length) (hml : m ≤ 140737488351232) (hll : l.length ≤ 9223372036854775807) :
    Calls Tryz.prog 26 #[.slice a l.length c, .agg #[.int .i64 5, .slice ka m kc, .int .i64 n, .string s, .int .i64 at_]] w fun e w' => e = .returned (.bool (kidsB 5 (kd l ks))) ∧ Below w.heap.size w w' := by
  have HM := hidden hm
  have HN := hidden hN
  have HK := hidden hk
  have HI := hidden hI
  clear hm hN hk hI
  have HB : Hid (Below w.heap.size w (w.alloc (.cells #[.int .i64 5, .slice ka m kc, .int .i64 n, .string s, .int .i64 at_] 59))) := (Below.refl _ _).alloc (Nat.le_refl _) _
  have HE : Hid (kidsB 5 (kd l ks) = (decide (m = 2) && exprs (kd l ks) 2)) := by
    show _ = _
    try rw [HM.out]
    simp only [kidsB, kd_length, kd_drop, kd_take]
    rfl
  by_cases h2 : m = 2
  · have h2' : ((m : Int) == 2) = true := by simp [h2]
    have H2 := hidden h2
    clear h2
    go_enter Tryz.func26, Tryz.ntmps26
    go_wp2_with fail
    refine (exprs_lit _ _ _ _ _ 2 _ l ks _ (HN.out.below HB.out) (HK.out.below HB.out) HI.out HM.out hml hll (by omega) rfl).mono ?_
    rintro e w1 ⟨rfl, hw1⟩
    rw [hw1]; clear hw1 w1
    cases he : exprs (kd l ks) 2
    all_goals
      have HEX := hidden he
      clear he
      go_wp2_with fail
      go_ret
      exact ⟨by rw [HE.out, HEX.out, decide_eq_true H2.out]; rfl, HB.out⟩
  · have h2' : ((m : Int) == 2) = false := by simp; omega
    have H2 := hidden h2
    clear h2
    go_enter Tryz.func26, Tryz.ntmps26
    go_wp2_with fail
    go_ret
    exact ⟨by rw [HE.out, decide_eq_false H2.out]; rfl, HB.out⟩
set_option maxRecDepth 100000 in
set_option maxHeartbeats 2000000 in
theorem kids_8 (a : Option Addr) (c : Nat) (l : List Nd) (ka : Option Addr) (kc m : Nat) (ks : List Int) (n : Int) (s : ByteArray) (at_ : Int) (w : World) (hN : Nodes w a l) (hk : Rows' .i64 w ka m (fun j => ks.getD j 0)) (hcap : m ≤ kc) (hI : InL l ks) (hm : m = ks.length) (hml : m ≤ 140737488351232) (hll : l.length ≤ 9223372036854775807) :
    Calls Tryz.prog 26 #[.slice a l.length c, .agg #[.int .i64 8, .slice ka m kc, .int .i64 n, .string s, .int .i64 at_]] w fun e w' => e = .returned (.bool (kidsB 8 (kd l ks))) ∧ Below w.heap.size w w' := by
  have HM := hidden hm
  have HN := hidden hN
  have HK := hidden hk
  have HI := hidden hI
  clear hm hN hk hI
  have HB : Hid (Below w.heap.size w (w.alloc (.cells #[.int .i64 8, .slice ka m kc, .int .i64 n, .string s, .int .i64 at_] 59))) := (Below.refl _ _).alloc (Nat.le_refl _) _
  have HE : Hid (kidsB 8 (kd l ks) = (decide (m = 2) && exprs (kd l ks) 2)) := by
    show _ = _
    try rw [HM.out]
    simp only [kidsB, kd_length, kd_drop, kd_take]
    rfl
  by_cases h2 : m = 2
  · have h2' : ((m : Int) == 2) = true := by simp [h2]
    have H2 := hidden h2
    clear h2
    go_enter Tryz.func26, Tryz.ntmps26
    go_wp2_with fail
    refine (exprs_lit _ _ _ _ _ 2 _ l ks _ (HN.out.below HB.out) (HK.out.below HB.out) HI.out HM.out hml hll (by omega) rfl).mono ?_
    rintro e w1 ⟨rfl, hw1⟩
    rw [hw1]; clear hw1 w1
    cases he : exprs (kd l ks) 2
    all_goals
      have HEX := hidden he
      clear he
      go_wp2_with fail
      go_ret
      exact ⟨by rw [HE.out, HEX.out, decide_eq_true H2.out]; rfl, HB.out⟩
  · have h2' : ((m : Int) == 2) = false := by simp; omega
    have H2 := hidden h2
    clear h2
    go_enter Tryz.func26, Tryz.ntmps26
    go_wp2_with fail
    go_ret
    exact ⟨by rw [HE.out, decide_eq_false H2.out]; rfl, HB.out⟩
set_option maxRecDepth 100000 in
set_option maxHeartbeats 2000000 in
theorem kids_14 (a : Option Addr) (c : Nat) (l : List Nd) (ka : Option Addr) (kc m : Nat) (ks : List Int) (n : Int) (s : ByteArray) (at_ : Int) (w : World) (hN : Nodes w a l) (hk : Rows' .i64 w ka m (fun j => ks.getD j 0)) (hcap : m ≤ kc) (hI : InL l ks) (hm : m = ks.length) (hml : m ≤ 140737488351232) (hll : l.length ≤ 9223372036854775807) :
    Calls Tryz.prog 26 #[.slice a l.length c, .agg #[.int .i64 14, .slice ka m kc, .int .i64 n, .string s, .int .i64 at_]] w fun e w' => e = .returned (.bool (kidsB 14 (kd l ks))) ∧ Below w.heap.size w w' := by
  have HM := hidden hm
  have HN := hidden hN
  have HK := hidden hk
  have HI := hidden hI
  clear hm hN hk hI
  have HB : Hid (Below w.heap.size w (w.alloc (.cells #[.int .i64 14, .slice ka m kc, .int .i64 n, .string s, .int .i64 at_] 59))) := (Below.refl _ _).alloc (Nat.le_refl _) _
  have HE : Hid (kidsB 14 (kd l ks) = (decide (m = 2) && exprs (kd l ks) 2)) := by
    show _ = _
    try rw [HM.out]
    simp only [kidsB, kd_length, kd_drop, kd_take]
    rfl
  by_cases h2 : m = 2
  · have h2' : ((m : Int) == 2) = true := by simp [h2]
    have H2 := hidden h2
    clear h2
    go_enter Tryz.func26, Tryz.ntmps26
    go_wp2_with fail
    refine (exprs_lit _ _ _ _ _ 2 _ l ks _ (HN.out.below HB.out) (HK.out.below HB.out) HI.out HM.out hml hll (by omega) rfl).mono ?_
    rintro e w1 ⟨rfl, hw1⟩
    rw [hw1]; clear hw1 w1
    cases he : exprs (kd l ks) 2
    all_goals
      have HEX := hidden he
      clear he
      go_wp2_with fail
      go_ret
      exact ⟨by rw [HE.out, HEX.out, decide_eq_true H2.out]; rfl, HB.out⟩
  · have h2' : ((m : Int) == 2) = false := by simp; omega
    have H2 := hidden h2
    clear h2
    go_enter Tryz.func26, Tryz.ntmps26
    go_wp2_with fail
    go_ret
    exact ⟨by rw [HE.out, decide_eq_false H2.out]; rfl, HB.out⟩
set_option maxRecDepth 100000 in
set_option maxHeartbeats 2000000 in
theorem kids_6 (a : Option Addr) (c : Nat) (l : List Nd) (ka : Option Addr) (kc m : Nat) (ks : List Int) (n : Int) (s : ByteArray) (at_ : Int) (w : World) (hN : Nodes w a l) (hk : Rows' .i64 w ka m (fun j => ks.getD j 0)) (hcap : m ≤ kc) (hI : InL l ks) (hm : m = ks.length) (hml : m ≤ 140737488351232) (hll : l.length ≤ 9223372036854775807) :
    Calls Tryz.prog 26 #[.slice a l.length c, .agg #[.int .i64 6, .slice ka m kc, .int .i64 n, .string s, .int .i64 at_]] w fun e w' => e = .returned (.bool (kidsB 6 (kd l ks))) ∧ Below w.heap.size w w' := by
  have HM := hidden hm
  have HN := hidden hN
  have HK := hidden hk
  have HI := hidden hI
  clear hm hN hk hI
  have HB : Hid (Below w.heap.size w (w.alloc (.cells #[.int .i64 6, .slice ka m kc, .int .i64 n, .string s, .int .i64 at_] 59))) := (Below.refl _ _).alloc (Nat.le_refl _) _
  have HE : Hid (kidsB 6 (kd l ks) = (decide (m = 1) && exprs (kd l ks) 1)) := by
    show _ = _
    try rw [HM.out]
    simp only [kidsB, kd_length, kd_drop, kd_take]
    rfl
  by_cases h2 : m = 1
  · have h2' : ((m : Int) == 1) = true := by simp [h2]
    have H2 := hidden h2
    clear h2
    go_enter Tryz.func26, Tryz.ntmps26
    go_wp2_with fail
    refine (exprs_lit _ _ _ _ _ 1 _ l ks _ (HN.out.below HB.out) (HK.out.below HB.out) HI.out HM.out hml hll (by omega) rfl).mono ?_
    rintro e w1 ⟨rfl, hw1⟩
    rw [hw1]; clear hw1 w1
    cases he : exprs (kd l ks) 1
    all_goals
      have HEX := hidden he
      clear he
      go_wp2_with fail
      go_ret
      exact ⟨by rw [HE.out, HEX.out, decide_eq_true H2.out]; rfl, HB.out⟩
  · have h2' : ((m : Int) == 1) = false := by simp; omega
    have H2 := hidden h2
    clear h2
    go_enter Tryz.func26, Tryz.ntmps26
    go_wp2_with fail
    go_ret
    exact ⟨by rw [HE.out, decide_eq_false H2.out]; rfl, HB.out⟩
set_option maxRecDepth 100000 in
set_option maxHeartbeats 2000000 in
theorem kids_7 (a : Option Addr) (c : Nat) (l : List Nd) (ka : Option Addr) (kc m : Nat) (ks : List Int) (n : Int) (s : ByteArray) (at_ : Int) (w : World) (hN : Nodes w a l) (hk : Rows' .i64 w ka m (fun j => ks.getD j 0)) (hcap : m ≤ kc) (hI : InL l ks) (hm : m = ks.length) (hml : m ≤ 140737488351232) (hll : l.length ≤ 9223372036854775807) :
    Calls Tryz.prog 26 #[.slice a l.length c, .agg #[.int .i64 7, .slice ka m kc, .int .i64 n, .string s, .int .i64 at_]] w fun e w' => e = .returned (.bool (kidsB 7 (kd l ks))) ∧ Below w.heap.size w w' := by
  have HM := hidden hm
  have HN := hidden hN
  have HK := hidden hk
  have HI := hidden hI
  clear hm hN hk hI
  have HB : Hid (Below w.heap.size w (w.alloc (.cells #[.int .i64 7, .slice ka m kc, .int .i64 n, .string s, .int .i64 at_] 59))) := (Below.refl _ _).alloc (Nat.le_refl _) _
  have HE : Hid (kidsB 7 (kd l ks) = (decide (m = 1) && exprs (kd l ks) 1)) := by
    show _ = _
    try rw [HM.out]
    simp only [kidsB, kd_length, kd_drop, kd_take]
    rfl
  by_cases h2 : m = 1
  · have h2' : ((m : Int) == 1) = true := by simp [h2]
    have H2 := hidden h2
    clear h2
    go_enter Tryz.func26, Tryz.ntmps26
    go_wp2_with fail
    refine (exprs_lit _ _ _ _ _ 1 _ l ks _ (HN.out.below HB.out) (HK.out.below HB.out) HI.out HM.out hml hll (by omega) rfl).mono ?_
    rintro e w1 ⟨rfl, hw1⟩
    rw [hw1]; clear hw1 w1
    cases he : exprs (kd l ks) 1
    all_goals
      have HEX := hidden he
      clear he
      go_wp2_with fail
      go_ret
      exact ⟨by rw [HE.out, HEX.out, decide_eq_true H2.out]; rfl, HB.out⟩
  · have h2' : ((m : Int) == 1) = false := by simp; omega
    have H2 := hidden h2
    clear h2
    go_enter Tryz.func26, Tryz.ntmps26
    go_wp2_with fail
    go_ret
    exact ⟨by rw [HE.out, decide_eq_false H2.out]; rfl, HB.out⟩
set_option maxRecDepth 100000 in
set_option maxHeartbeats 2000000 in
theorem kids_9 (a : Option Addr) (c : Nat) (l : List Nd) (ka : Option Addr) (kc m : Nat) (ks : List Int) (n : Int) (s : ByteArray) (at_ : Int) (w : World) (hN : Nodes w a l) (hk : Rows' .i64 w ka m (fun j => ks.getD j 0)) (hcap : m ≤ kc) (hI : InL l ks) (hm : m = ks.length) (hml : m ≤ 140737488351232) (hll : l.length ≤ 9223372036854775807) :
    Calls Tryz.prog 26 #[.slice a l.length c, .agg #[.int .i64 9, .slice ka m kc, .int .i64 n, .string s, .int .i64 at_]] w fun e w' => e = .returned (.bool (kidsB 9 (kd l ks))) ∧ Below w.heap.size w w' := by
  have HM := hidden hm
  have HN := hidden hN
  have HK := hidden hk
  have HI := hidden hI
  clear hm hN hk hI
  have HB : Hid (Below w.heap.size w (w.alloc (.cells #[.int .i64 9, .slice ka m kc, .int .i64 n, .string s, .int .i64 at_] 59))) := (Below.refl _ _).alloc (Nat.le_refl _) _
  have HE : Hid (kidsB 9 (kd l ks) = (decide (m = 1) && exprs (kd l ks) 1)) := by
    show _ = _
    try rw [HM.out]
    simp only [kidsB, kd_length, kd_drop, kd_take]
    rfl
  by_cases h2 : m = 1
  · have h2' : ((m : Int) == 1) = true := by simp [h2]
    have H2 := hidden h2
    clear h2
    go_enter Tryz.func26, Tryz.ntmps26
    go_wp2_with fail
    refine (exprs_lit _ _ _ _ _ 1 _ l ks _ (HN.out.below HB.out) (HK.out.below HB.out) HI.out HM.out hml hll (by omega) rfl).mono ?_
    rintro e w1 ⟨rfl, hw1⟩
    rw [hw1]; clear hw1 w1
    cases he : exprs (kd l ks) 1
    all_goals
      have HEX := hidden he
      clear he
      go_wp2_with fail
      go_ret
      exact ⟨by rw [HE.out, HEX.out, decide_eq_true H2.out]; rfl, HB.out⟩
  · have h2' : ((m : Int) == 1) = false := by simp; omega
    have H2 := hidden h2
    clear h2
    go_enter Tryz.func26, Tryz.ntmps26
    go_wp2_with fail
    go_ret
    exact ⟨by rw [HE.out, decide_eq_false H2.out]; rfl, HB.out⟩
set_option maxRecDepth 100000 in
set_option maxHeartbeats 2000000 in
theorem kids_10 (a : Option Addr) (c : Nat) (l : List Nd) (ka : Option Addr) (kc m : Nat) (ks : List Int) (n : Int) (s : ByteArray) (at_ : Int) (w : World) (hN : Nodes w a l) (hk : Rows' .i64 w ka m (fun j => ks.getD j 0)) (hcap : m ≤ kc) (hI : InL l ks) (hm : m = ks.length) (hml : m ≤ 140737488351232) (hll : l.length ≤ 9223372036854775807) :
    Calls Tryz.prog 26 #[.slice a l.length c, .agg #[.int .i64 10, .slice ka m kc, .int .i64 n, .string s, .int .i64 at_]] w fun e w' => e = .returned (.bool (kidsB 10 (kd l ks))) ∧ Below w.heap.size w w' := by
  have HM := hidden hm
  have HN := hidden hN
  have HK := hidden hk
  have HI := hidden hI
  clear hm hN hk hI
  have HB : Hid (Below w.heap.size w (w.alloc (.cells #[.int .i64 10, .slice ka m kc, .int .i64 n, .string s, .int .i64 at_] 59))) := (Below.refl _ _).alloc (Nat.le_refl _) _
  have HE : Hid (kidsB 10 (kd l ks) = (decide (m = 1) && exprs (kd l ks) 1)) := by
    show _ = _
    try rw [HM.out]
    simp only [kidsB, kd_length, kd_drop, kd_take]
    rfl
  by_cases h2 : m = 1
  · have h2' : ((m : Int) == 1) = true := by simp [h2]
    have H2 := hidden h2
    clear h2
    go_enter Tryz.func26, Tryz.ntmps26
    go_wp2_with fail
    refine (exprs_lit _ _ _ _ _ 1 _ l ks _ (HN.out.below HB.out) (HK.out.below HB.out) HI.out HM.out hml hll (by omega) rfl).mono ?_
    rintro e w1 ⟨rfl, hw1⟩
    rw [hw1]; clear hw1 w1
    cases he : exprs (kd l ks) 1
    all_goals
      have HEX := hidden he
      clear he
      go_wp2_with fail
      go_ret
      exact ⟨by rw [HE.out, HEX.out, decide_eq_true H2.out]; rfl, HB.out⟩
  · have h2' : ((m : Int) == 1) = false := by simp; omega
    have H2 := hidden h2
    clear h2
    go_enter Tryz.func26, Tryz.ntmps26
    go_wp2_with fail
    go_ret
    exact ⟨by rw [HE.out, decide_eq_false H2.out]; rfl, HB.out⟩
set_option maxRecDepth 100000 in
set_option maxHeartbeats 2000000 in
theorem kids_12 (a : Option Addr) (c : Nat) (l : List Nd) (ka : Option Addr) (kc m : Nat) (ks : List Int) (n : Int) (s : ByteArray) (at_ : Int) (w : World) (hN : Nodes w a l) (hk : Rows' .i64 w ka m (fun j => ks.getD j 0)) (hcap : m ≤ kc) (hI : InL l ks) (hm : m = ks.length) (hml : m ≤ 140737488351232) (hll : l.length ≤ 9223372036854775807) :
    Calls Tryz.prog 26 #[.slice a l.length c, .agg #[.int .i64 12, .slice ka m kc, .int .i64 n, .string s, .int .i64 at_]] w fun e w' => e = .returned (.bool (kidsB 12 (kd l ks))) ∧ Below w.heap.size w w' := by
  have HM := hidden hm
  have HN := hidden hN
  have HK := hidden hk
  have HI := hidden hI
  clear hm hN hk hI
  have HB : Hid (Below w.heap.size w (w.alloc (.cells #[.int .i64 12, .slice ka m kc, .int .i64 n, .string s, .int .i64 at_] 59))) := (Below.refl _ _).alloc (Nat.le_refl _) _
  have HE : Hid (kidsB 12 (kd l ks) = (decide (m = 1) && exprs (kd l ks) 1)) := by
    show _ = _
    try rw [HM.out]
    simp only [kidsB, kd_length, kd_drop, kd_take]
    rfl
  by_cases h2 : m = 1
  · have h2' : ((m : Int) == 1) = true := by simp [h2]
    have H2 := hidden h2
    clear h2
    go_enter Tryz.func26, Tryz.ntmps26
    go_wp2_with fail
    refine (exprs_lit _ _ _ _ _ 1 _ l ks _ (HN.out.below HB.out) (HK.out.below HB.out) HI.out HM.out hml hll (by omega) rfl).mono ?_
    rintro e w1 ⟨rfl, hw1⟩
    rw [hw1]; clear hw1 w1
    cases he : exprs (kd l ks) 1
    all_goals
      have HEX := hidden he
      clear he
      go_wp2_with fail
      go_ret
      exact ⟨by rw [HE.out, HEX.out, decide_eq_true H2.out]; rfl, HB.out⟩
  · have h2' : ((m : Int) == 1) = false := by simp; omega
    have H2 := hidden h2
    clear h2
    go_enter Tryz.func26, Tryz.ntmps26
    go_wp2_with fail
    go_ret
    exact ⟨by rw [HE.out, decide_eq_false H2.out]; rfl, HB.out⟩
set_option maxRecDepth 100000 in
set_option maxHeartbeats 2000000 in
theorem kids_13 (a : Option Addr) (c : Nat) (l : List Nd) (ka : Option Addr) (kc m : Nat) (ks : List Int) (n : Int) (s : ByteArray) (at_ : Int) (w : World) (hN : Nodes w a l) (hk : Rows' .i64 w ka m (fun j => ks.getD j 0)) (hcap : m ≤ kc) (hI : InL l ks) (hm : m = ks.length) (hml : m ≤ 140737488351232) (hll : l.length ≤ 9223372036854775807) :
    Calls Tryz.prog 26 #[.slice a l.length c, .agg #[.int .i64 13, .slice ka m kc, .int .i64 n, .string s, .int .i64 at_]] w fun e w' => e = .returned (.bool (kidsB 13 (kd l ks))) ∧ Below w.heap.size w w' := by
  have HM := hidden hm
  have HN := hidden hN
  have HK := hidden hk
  have HI := hidden hI
  clear hm hN hk hI
  have HB : Hid (Below w.heap.size w (w.alloc (.cells #[.int .i64 13, .slice ka m kc, .int .i64 n, .string s, .int .i64 at_] 59))) := (Below.refl _ _).alloc (Nat.le_refl _) _
  have HE : Hid (kidsB 13 (kd l ks) = (decide (m = 1) && exprs (kd l ks) 1)) := by
    show _ = _
    try rw [HM.out]
    simp only [kidsB, kd_length, kd_drop, kd_take]
    rfl
  by_cases h2 : m = 1
  · have h2' : ((m : Int) == 1) = true := by simp [h2]
    have H2 := hidden h2
    clear h2
    go_enter Tryz.func26, Tryz.ntmps26
    go_wp2_with fail
    refine (exprs_lit _ _ _ _ _ 1 _ l ks _ (HN.out.below HB.out) (HK.out.below HB.out) HI.out HM.out hml hll (by omega) rfl).mono ?_
    rintro e w1 ⟨rfl, hw1⟩
    rw [hw1]; clear hw1 w1
    cases he : exprs (kd l ks) 1
    all_goals
      have HEX := hidden he
      clear he
      go_wp2_with fail
      go_ret
      exact ⟨by rw [HE.out, HEX.out, decide_eq_true H2.out]; rfl, HB.out⟩
  · have h2' : ((m : Int) == 1) = false := by simp; omega
    have H2 := hidden h2
    clear h2
    go_enter Tryz.func26, Tryz.ntmps26
    go_wp2_with fail
    go_ret
    exact ⟨by rw [HE.out, decide_eq_false H2.out]; rfl, HB.out⟩
set_option maxRecDepth 100000 in
set_option maxHeartbeats 2000000 in
theorem kids_20 (a : Option Addr) (c : Nat) (l : List Nd) (ka : Option Addr) (kc m : Nat) (ks : List Int) (n : Int) (s : ByteArray) (at_ : Int) (w : World) (hN : Nodes w a l) (hk : Rows' .i64 w ka m (fun j => ks.getD j 0)) (hcap : m ≤ kc) (hI : InL l ks) (hm : m = ks.length) (hml : m ≤ 140737488351232) (hll : l.length ≤ 9223372036854775807) :
    Calls Tryz.prog 26 #[.slice a l.length c, .agg #[.int .i64 20, .slice ka m kc, .int .i64 n, .string s, .int .i64 at_]] w fun e w' => e = .returned (.bool (kidsB 20 (kd l ks))) ∧ Below w.heap.size w w' := by
  have HM := hidden hm
  have HN := hidden hN
  have HK := hidden hk
  have HI := hidden hI
  clear hm hN hk hI
  have HB : Hid (Below w.heap.size w (w.alloc (.cells #[.int .i64 20, .slice ka m kc, .int .i64 n, .string s, .int .i64 at_] 59))) := (Below.refl _ _).alloc (Nat.le_refl _) _
  have HE : Hid (kidsB 20 (kd l ks) = (decide (m = 1) && exprs (kd l ks) 1)) := by
    show _ = _
    try rw [HM.out]
    simp only [kidsB, kd_length, kd_drop, kd_take]
    rfl
  by_cases h2 : m = 1
  · have h2' : ((m : Int) == 1) = true := by simp [h2]
    have H2 := hidden h2
    clear h2
    go_enter Tryz.func26, Tryz.ntmps26
    go_wp2_with fail
    refine (exprs_lit _ _ _ _ _ 1 _ l ks _ (HN.out.below HB.out) (HK.out.below HB.out) HI.out HM.out hml hll (by omega) rfl).mono ?_
    rintro e w1 ⟨rfl, hw1⟩
    rw [hw1]; clear hw1 w1
    cases he : exprs (kd l ks) 1
    all_goals
      have HEX := hidden he
      clear he
      go_wp2_with fail
      go_ret
      exact ⟨by rw [HE.out, HEX.out, decide_eq_true H2.out]; rfl, HB.out⟩
  · have h2' : ((m : Int) == 1) = false := by simp; omega
    have H2 := hidden h2
    clear h2
    go_enter Tryz.func26, Tryz.ntmps26
    go_wp2_with fail
    go_ret
    exact ⟨by rw [HE.out, decide_eq_false H2.out]; rfl, HB.out⟩
set_option maxRecDepth 100000 in
set_option maxHeartbeats 2000000 in
theorem kids_21 (a : Option Addr) (c : Nat) (l : List Nd) (ka : Option Addr) (kc m : Nat) (ks : List Int) (n : Int) (s : ByteArray) (at_ : Int) (w : World) (hN : Nodes w a l) (hk : Rows' .i64 w ka m (fun j => ks.getD j 0)) (hcap : m ≤ kc) (hI : InL l ks) (hm : m = ks.length) (hml : m ≤ 140737488351232) (hll : l.length ≤ 9223372036854775807) :
    Calls Tryz.prog 26 #[.slice a l.length c, .agg #[.int .i64 21, .slice ka m kc, .int .i64 n, .string s, .int .i64 at_]] w fun e w' => e = .returned (.bool (kidsB 21 (kd l ks))) ∧ Below w.heap.size w w' := by
  have HM := hidden hm
  have HN := hidden hN
  have HK := hidden hk
  have HI := hidden hI
  clear hm hN hk hI
  have HB : Hid (Below w.heap.size w (w.alloc (.cells #[.int .i64 21, .slice ka m kc, .int .i64 n, .string s, .int .i64 at_] 59))) := (Below.refl _ _).alloc (Nat.le_refl _) _
  have HE : Hid (kidsB 21 (kd l ks) = (decide (m = 1) && exprs (kd l ks) 1)) := by
    show _ = _
    try rw [HM.out]
    simp only [kidsB, kd_length, kd_drop, kd_take]
    rfl
  by_cases h2 : m = 1
  · have h2' : ((m : Int) == 1) = true := by simp [h2]
    have H2 := hidden h2
    clear h2
    go_enter Tryz.func26, Tryz.ntmps26
    go_wp2_with fail
    refine (exprs_lit _ _ _ _ _ 1 _ l ks _ (HN.out.below HB.out) (HK.out.below HB.out) HI.out HM.out hml hll (by omega) rfl).mono ?_
    rintro e w1 ⟨rfl, hw1⟩
    rw [hw1]; clear hw1 w1
    cases he : exprs (kd l ks) 1
    all_goals
      have HEX := hidden he
      clear he
      go_wp2_with fail
      go_ret
      exact ⟨by rw [HE.out, HEX.out, decide_eq_true H2.out]; rfl, HB.out⟩
  · have h2' : ((m : Int) == 1) = false := by simp; omega
    have H2 := hidden h2
    clear h2
    go_enter Tryz.func26, Tryz.ntmps26
    go_wp2_with fail
    go_ret
    exact ⟨by rw [HE.out, decide_eq_false H2.out]; rfl, HB.out⟩
set_option maxRecDepth 100000 in
set_option maxHeartbeats 2000000 in
theorem kids_11 (a : Option Addr) (c : Nat) (l : List Nd) (ka : Option Addr) (kc m : Nat) (ks : List Int) (n : Int) (s : ByteArray) (at_ : Int) (w : World) (hN : Nodes w a l) (hk : Rows' .i64 w ka m (fun j => ks.getD j 0)) (hcap : m ≤ kc) (hI : InL l ks) (hm : m = ks.length) (hml : m ≤ 140737488351232) (hll : l.length ≤ 9223372036854775807) :
    Calls Tryz.prog 26 #[.slice a l.length c, .agg #[.int .i64 11, .slice ka m kc, .int .i64 n, .string s, .int .i64 at_]] w fun e w' => e = .returned (.bool (kidsB 11 (kd l ks))) ∧ Below w.heap.size w w' := by
  have HM := hidden hm
  have HN := hidden hN
  have HK := hidden hk
  have HI := hidden hI
  clear hm hN hk hI
  have HB : Hid (Below w.heap.size w (w.alloc (.cells #[.int .i64 11, .slice ka m kc, .int .i64 n, .string s, .int .i64 at_] 59))) := (Below.refl _ _).alloc (Nat.le_refl _) _
  have HE : Hid (kidsB 11 (kd l ks) = (decide (m ≤ 8) && exprs (kd l ks) m)) := by
    show _ = _
    try rw [HM.out]
    simp only [kidsB, kd_length, kd_drop, kd_take]
    rfl
  by_cases h2 : m ≤ 8
  · have H2 := hidden h2
    go_enter Tryz.func26, Tryz.ntmps26
    go_wp2_with fail
    refine (exprs_lit _ _ _ _ _ m _ l ks _ (HN.out.below HB.out) (HK.out.below HB.out) HI.out HM.out hml hll (by omega) rfl).mono ?_
    rintro e w1 ⟨rfl, hw1⟩
    rw [hw1]; clear hw1 w1
    cases he : exprs (kd l ks) m
    all_goals
      have HEX := hidden he
      clear he
      go_wp2_with fail
      go_ret
      exact ⟨by rw [HE.out, HEX.out, decide_eq_true H2.out]; rfl, HB.out⟩
  · have H2 := hidden h2
    go_enter Tryz.func26, Tryz.ntmps26
    go_wp2_with fail
    go_ret
    exact ⟨by rw [HE.out, decide_eq_false H2.out]; rfl, HB.out⟩
set_option maxRecDepth 100000 in
set_option maxHeartbeats 2000000 in
theorem kids_15 (a : Option Addr) (c : Nat) (l : List Nd) (ka : Option Addr) (kc m : Nat) (ks : List Int) (n : Int) (s : ByteArray) (at_ : Int) (w : World) (hN : Nodes w a l) (hk : Rows' .i64 w ka m (fun j => ks.getD j 0)) (hcap : m ≤ kc) (hI : InL l ks) (hm : m = ks.length) (hml : m ≤ 140737488351232) (hll : l.length ≤ 9223372036854775807) :
    Calls Tryz.prog 26 #[.slice a l.length c, .agg #[.int .i64 15, .slice ka m kc, .int .i64 n, .string s, .int .i64 at_]] w fun e w' => e = .returned (.bool (kidsB 15 (kd l ks))) ∧ Below w.heap.size w w' := by
  have HM := hidden hm
  have HN := hidden hN
  have HK := hidden hk
  have HI := hidden hI
  clear hm hN hk hI
  have HB : Hid (Below w.heap.size w (w.alloc (.cells #[.int .i64 15, .slice ka m kc, .int .i64 n, .string s, .int .i64 at_] 59))) := (Below.refl _ _).alloc (Nat.le_refl _) _
  have HE : Hid (kidsB 15 (kd l ks) = (exprs (kd l ks) 1 && decide (2 ≤ m) && alls (kd l (ks.drop 1)) 23 2)) := by
    show _ = _
    try rw [HM.out]
    simp only [kidsB, kd_length, kd_drop, kd_take]
    rfl
  go_enter Tryz.func26, Tryz.ntmps26
  go_wp2_with fail
  refine (exprs_lit _ _ _ _ _ 1 _ l ks _ (HN.out.below HB.out) (HK.out.below HB.out) HI.out HM.out hml hll (by omega) rfl).mono ?_
  rintro e w1 ⟨rfl, hw1⟩
  rw [hw1]; clear hw1 w1
  cases he : exprs (kd l ks) 1 with
  | false =>
    have HEX := hidden he
    clear he
    go_wp2_with fail
    go_ret
    exact ⟨by rw [HE.out, HEX.out]; rfl, HB.out⟩
  | true =>
    have HEX := hidden he
    clear he
    by_cases h2 : 2 ≤ m
    · have H2 := hidden h2
      skip
      go_wp2_with fail
      refine (all_lit _ _ _ _ _ 2 _ _ l (ks.drop 1) _ (HN.out.below HB.out) (rows_drop (HK.out.below HB.out)) (HI.out.drop 1) (by rw [List.length_drop, ← HM.out]) (by omega) hll (by omega) rfl).mono ?_
      rintro e w1 ⟨rfl, hw1⟩
      rw [hw1]; clear hw1 w1
      cases he : alls (kd l (ks.drop 1)) 23 2
      all_goals
        have HAL := hidden he
        clear he
        go_wp2_with fail
        go_ret
        exact ⟨by rw [HE.out, HEX.out, decide_eq_true H2.out, HAL.out]; rfl, HB.out⟩
    · have H2 := hidden h2
      skip
      go_wp2_with fail
      go_ret
      exact ⟨by rw [HE.out, HEX.out, decide_eq_false H2.out]; rfl, HB.out⟩
set_option maxRecDepth 100000 in
set_option maxHeartbeats 2000000 in
theorem kids_16 (a : Option Addr) (c : Nat) (l : List Nd) (ka : Option Addr) (kc m : Nat) (ks : List Int) (n : Int) (s : ByteArray) (at_ : Int) (w : World) (hN : Nodes w a l) (hk : Rows' .i64 w ka m (fun j => ks.getD j 0)) (hcap : m ≤ kc) (hI : InL l ks) (hm : m = ks.length) (hml : m ≤ 140737488351232) (hll : l.length ≤ 9223372036854775807) :
    Calls Tryz.prog 26 #[.slice a l.length c, .agg #[.int .i64 16, .slice ka m kc, .int .i64 n, .string s, .int .i64 at_]] w fun e w' => e = .returned (.bool (kidsB 16 (kd l ks))) ∧ Below w.heap.size w w' := by
  have HM := hidden hm
  have HN := hidden hN
  have HK := hidden hk
  have HI := hidden hI
  clear hm hN hk hI
  have HB : Hid (Below w.heap.size w (w.alloc (.cells #[.int .i64 16, .slice ka m kc, .int .i64 n, .string s, .int .i64 at_] 59))) := (Below.refl _ _).alloc (Nat.le_refl _) _
  have HE : Hid (kidsB 16 (kd l ks) = (exprs (kd l ks) 1 && decide (m = 2) && alls (kd l (ks.drop 1)) 23 1)) := by
    show _ = _
    try rw [HM.out]
    simp only [kidsB, kd_length, kd_drop, kd_take]
    rfl
  go_enter Tryz.func26, Tryz.ntmps26
  go_wp2_with fail
  refine (exprs_lit _ _ _ _ _ 1 _ l ks _ (HN.out.below HB.out) (HK.out.below HB.out) HI.out HM.out hml hll (by omega) rfl).mono ?_
  rintro e w1 ⟨rfl, hw1⟩
  rw [hw1]; clear hw1 w1
  cases he : exprs (kd l ks) 1 with
  | false =>
    have HEX := hidden he
    clear he
    go_wp2_with fail
    go_ret
    exact ⟨by rw [HE.out, HEX.out]; rfl, HB.out⟩
  | true =>
    have HEX := hidden he
    clear he
    by_cases h2 : m = 2
    · have h2' : ((m : Int) == 2) = true := by simp [h2]
      have hge : 2 ≤ m := by omega
      have H2 := hidden h2
      clear h2
      go_wp2_with fail
      refine (all_lit _ _ _ _ _ 1 _ _ l (ks.drop 1) _ (HN.out.below HB.out) (rows_drop (HK.out.below HB.out)) (HI.out.drop 1) (by rw [List.length_drop, ← HM.out]) (by omega) hll (by omega) rfl).mono ?_
      rintro e w1 ⟨rfl, hw1⟩
      rw [hw1]; clear hw1 w1
      cases he : alls (kd l (ks.drop 1)) 23 1
      all_goals
        have HAL := hidden he
        clear he
        go_wp2_with fail
        go_ret
        exact ⟨by rw [HE.out, HEX.out, decide_eq_true H2.out, HAL.out]; rfl, HB.out⟩
    · have h2' : ((m : Int) == 2) = false := by simp; omega
      have H2 := hidden h2
      clear h2
      go_wp2_with fail
      go_ret
      exact ⟨by rw [HE.out, HEX.out, decide_eq_false H2.out]; rfl, HB.out⟩
set_option maxRecDepth 100000 in
set_option maxHeartbeats 2000000 in
theorem kids_17 (a : Option Addr) (c : Nat) (l : List Nd) (ka : Option Addr) (kc m : Nat) (ks : List Int) (n : Int) (s : ByteArray) (at_ : Int) (w : World) (hN : Nodes w a l) (hk : Rows' .i64 w ka m (fun j => ks.getD j 0)) (hcap : m ≤ kc) (hI : InL l ks) (hm : m = ks.length) (hml : m ≤ 140737488351232) (hll : l.length ≤ 9223372036854775807) :
    Calls Tryz.prog 26 #[.slice a l.length c, .agg #[.int .i64 17, .slice ka m kc, .int .i64 n, .string s, .int .i64 at_]] w fun e w' => e = .returned (.bool (kidsB 17 (kd l ks))) ∧ Below w.heap.size w w' := by
  have HM := hidden hm
  have HN := hidden hN
  have HK := hidden hk
  have HI := hidden hI
  clear hm hN hk hI
  have HB : Hid (Below w.heap.size w (w.alloc (.cells #[.int .i64 17, .slice ka m kc, .int .i64 n, .string s, .int .i64 at_] 59))) := (Below.refl _ _).alloc (Nat.le_refl _) _
  have HE : Hid (kidsB 17 (kd l ks) = (exprs (kd l ks) 2 && decide (m = 3) && alls (kd l (ks.drop 2)) 23 1)) := by
    show _ = _
    try rw [HM.out]
    simp only [kidsB, kd_length, kd_drop, kd_take]
    rfl
  go_enter Tryz.func26, Tryz.ntmps26
  go_wp2_with fail
  refine (exprs_lit _ _ _ _ _ 2 _ l ks _ (HN.out.below HB.out) (HK.out.below HB.out) HI.out HM.out hml hll (by omega) rfl).mono ?_
  rintro e w1 ⟨rfl, hw1⟩
  rw [hw1]; clear hw1 w1
  cases he : exprs (kd l ks) 2 with
  | false =>
    have HEX := hidden he
    clear he
    go_wp2_with fail
    go_ret
    exact ⟨by rw [HE.out, HEX.out]; rfl, HB.out⟩
  | true =>
    have HEX := hidden he
    clear he
    by_cases h2 : m = 3
    · have h2' : ((m : Int) == 3) = true := by simp [h2]
      have hge : 3 ≤ m := by omega
      have H2 := hidden h2
      clear h2
      go_wp2_with fail
      refine (all_lit _ _ _ _ _ 1 _ _ l (ks.drop 2) _ (HN.out.below HB.out) (rows_drop (HK.out.below HB.out)) (HI.out.drop 2) (by rw [List.length_drop, ← HM.out]) (by omega) hll (by omega) rfl).mono ?_
      rintro e w1 ⟨rfl, hw1⟩
      rw [hw1]; clear hw1 w1
      cases he : alls (kd l (ks.drop 2)) 23 1
      all_goals
        have HAL := hidden he
        clear he
        go_wp2_with fail
        go_ret
        exact ⟨by rw [HE.out, HEX.out, decide_eq_true H2.out, HAL.out]; rfl, HB.out⟩
    · have h2' : ((m : Int) == 3) = false := by simp; omega
      have H2 := hidden h2
      clear h2
      go_wp2_with fail
      go_ret
      exact ⟨by rw [HE.out, HEX.out, decide_eq_false H2.out]; rfl, HB.out⟩
end Go.Proofs.YtagacfcpepoaoaaGreatDoor

namespace Go.Proofs.YtagacfcpepoaoaaGreatDoor
open Go.RowKit
set_option linter.unusedVariables false

set_option maxRecDepth 100000 in
set_option maxHeartbeats 2000000 in
theorem kids_22 (a : Option Addr) (c : Nat) (l : List Nd) (ka : Option Addr) (kc m : Nat) (ks : List Int) (n : Int) (s : ByteArray) (at_ : Int) (w : World) (hN : Nodes w a l) (hk : Rows' .i64 w ka m (fun j => ks.getD j 0)) (hcap : m ≤ kc) (hI : InL l ks) (hm : m = ks.length) (hml : m ≤ 140737488351232) (hll : l.length ≤ 9223372036854775807) :
    Calls Tryz.prog 26 #[.slice a l.length c, .agg #[.int .i64 22, .slice ka m kc, .int .i64 n, .string s, .int .i64 at_]] w fun e w' => e = .returned (.bool (kidsB 22 (kd l ks))) ∧ Below w.heap.size w w' := by
  have HM := hidden hm
  have HN := hidden hN
  have HK := hidden hk
  have HI := hidden hI
  clear hm hN hk hI
  have HB : Hid (Below w.heap.size w (w.alloc (.cells #[.int .i64 22, .slice ka m kc, .int .i64 n, .string s, .int .i64 at_] 59))) := (Below.refl _ _).alloc (Nat.le_refl _) _
  have HE : Hid (kidsB 22 (kd l ks) = (decide (m = 1) && decide ((kd l ks).getD 0 0 = 11))) := by
    show _ = _
    try rw [HM.out]
    simp only [kidsB, kd_length, kd_drop, kd_take]
    rfl
  by_cases h2 : m = 1
  · have h2' : ((m : Int) == 1) = true := by simp [h2]
    obtain ⟨kb, ko, lb, lo, q, rfl, rfl, hc, hq, ⟨h5, _⟩, hkd, _⟩ := kid_at (j := 0) HN.out HK.out HI.out HM.out (by omega)
    have hb5 : Hid (lb < w.heap.size) := cell_lt h5
    have hbk : Hid (kb < w.heap.size) := cell_lt hc
    have h5' := (World.cell?_alloc_lt w (.cells #[.int .i64 22, .slice (some ⟨kb, ko, none⟩) m kc, .int .i64 n, .string s, .int .i64 at_] 59) ⟨lb, lo + q * 5, none⟩ hb5.out).trans h5
    have hc' := (World.cell?_alloc_lt w (.cells #[.int .i64 22, .slice (some ⟨kb, ko, none⟩) m kc, .int .i64 n, .string s, .int .i64 at_] 59) ⟨kb, ko + 0, none⟩ hbk.out).trans hc
    rw [Nat.add_zero] at hc'
    obtain ⟨Z, hZ⟩ : ∃ Z, Z = (nd l q).kind := ⟨_, rfl⟩
    rw [← hZ] at h5' hkd
    have HKD := hidden hkd
    have H2 := hidden h2
    have hm1 : 1 ≤ m := by omega
    clear hZ hkd h2 h5 hc
    by_cases he : Z = 11
    · have he' : (Z == 11) = true := by simp [he]
      have HEX := hidden he
      clear he
      go_enter Tryz.func26, Tryz.ntmps26
      go_wp2_with fail
      go_ret
      exact ⟨by rw [HE.out, decide_eq_true H2.out, HKD.out, decide_eq_true HEX.out]; rfl, HB.out⟩
    · have he' : (Z == 11) = false := by simp [he]
      have HEX := hidden he
      clear he
      go_enter Tryz.func26, Tryz.ntmps26
      go_wp2_with fail
      go_ret
      exact ⟨by rw [HE.out, decide_eq_true H2.out, HKD.out, decide_eq_false HEX.out]; rfl, HB.out⟩
  · have h2' : ((m : Int) == 1) = false := by simp; omega
    have H2 := hidden h2
    clear h2
    go_enter Tryz.func26, Tryz.ntmps26
    go_wp2_with fail
    go_ret
    exact ⟨by rw [HE.out, decide_eq_false H2.out]; rfl, HB.out⟩
theorem sts_bad {ks : List Int} {k : Nat} (hk : k < ks.length) (h : isSt (ks.getD k 0) = false) : ks.all isSt = false := by
  rw [List.all_eq_false]
  refine ⟨ks[k], List.getElem_mem hk, ?_⟩
  rw [List.getD_eq_getElem?_getD, List.getElem?_eq_getElem hk] at h
  have h' : isSt ks[k] = false := h
  simp [h']
theorem sts_ok {ks : List Int} (h : ∀ k, k < ks.length → isSt (ks.getD k 0) = true) : ks.all isSt = true := by
  rw [List.all_eq_true]
  intro x hx
  obtain ⟨k, hk, rfl⟩ := List.mem_iff_getElem.1 hx
  have := h k hk
  rw [List.getD_eq_getElem?_getD, List.getElem?_eq_getElem hk] at this
  exact this
set_option maxRecDepth 100000 in
set_option maxHeartbeats 2000000 in
theorem kids_23 (a : Option Addr) (c : Nat) (l : List Nd) (ka : Option Addr) (kc m : Nat) (ks : List Int) (n : Int) (s : ByteArray) (at_ : Int) (w : World) (hN : Nodes w a l) (hk : Rows' .i64 w ka m (fun j => ks.getD j 0)) (hcap : m ≤ kc) (hI : InL l ks) (hm : m = ks.length) (hml : m ≤ 140737488351232) (hll : l.length ≤ 9223372036854775807) :
    Calls Tryz.prog 26 #[.slice a l.length c, .agg #[.int .i64 23, .slice ka m kc, .int .i64 n, .string s, .int .i64 at_]] w fun e w' => e = .returned (.bool (kidsB 23 (kd l ks))) ∧ Below w.heap.size w w' := by
  have HM := hidden hm
  have HN := hidden hN
  have HK := hidden hk
  have HI := hidden hI
  clear hm hN hk hI
  have HB : Hid (Below w.heap.size w (w.alloc (.cells #[.int .i64 23, .slice ka m kc, .int .i64 n, .string s, .int .i64 at_] 59))) := (Below.refl _ _).alloc (Nat.le_refl _) _
  have HE : Hid (kidsB 23 (kd l ks) = ((kd l ks).all isSt)) := by
    show _ = _
    try rw [HM.out]
    simp only [kidsB, kd_length, kd_drop, kd_take]
    rfl
  have HL : Hid ((kd l ks).length = m) := by show _ = m; rw [kd_length, ← HM.out]
  obtain ⟨B, hB⟩ : ∃ B, B = kidsB 23 (kd l ks) := ⟨_, rfl⟩
  rw [← hB]
  have HBB : Hid (B = (kd l ks).all isSt) := hB.trans HE.out
  clear hB HE
  go_enter Tryz.func26, Tryz.ntmps26
  go_wp2_with fail
  obtain ⟨w1, hw1⟩ : ∃ w1, w1 = w.alloc (.cells #[.int .i64 23, .slice ka m kc, .int .i64 n, .string s, .int .i64 at_] 59) := ⟨_, rfl⟩
  have HB1 : Hid (Below w.heap.size w w1) := by rw [hw1]; exact HB.out
  have HN1 := hidden (HN.out.below HB1.out)
  have HK1 := hidden (HK.out.below HB1.out)
  rw [← hw1]
  clear hw1 HB
  go_loop [6] (fun i => ∃ k : Nat, k ≤ m ∧ i = .int .i64 (k : Int) ∧ Hid (∀ j, j < k → isSt ((kd l ks).getD j 0) = true)) (fun i => m - (intOf i).toNat)
  case atStart => exact ⟨0, by omega, rfl, fun j hj => by omega⟩
  case round =>
    obtain ⟨k, hk, rfl, hE⟩ := hrel
    by_cases hkn : k < m
    · obtain ⟨kb, ko, lb, lo, q, rfl, rfl, hc, hq, ⟨h5, _⟩, hkd, _⟩ := kid_at (j := k) HN1.out HK1.out HI.out HM.out (by omega)
      obtain ⟨Z, hZ⟩ : ∃ Z, Z = (nd l q).kind := ⟨_, rfl⟩
      rw [← hZ] at h5 hkd
      have HKD := hidden hkd
      clear hZ hkd
      go_wp2_with fail
      refine (stmt_any Z w1).mono ?_
      rintro e w2 ⟨rfl, hw2⟩
      rw [hw2]; clear hw2 w2
      cases he : isSt Z with
      | true =>
        have HE := hidden he
        clear he
        go_wp2_with fail
        go_round
        case rel => exact ⟨k + 1, by omega, by go_num, fun j hj => by
          rcases Nat.lt_or_ge j k with h | h
          · exact hE.out j h
          · rw [show j = k by omega, HKD.out]; exact HE.out⟩
        case measure => simp [intOf]; omega
      | false =>
        have HE := hidden he
        clear he
        go_wp2_with fail
        go_ret
        exact ⟨by rw [HBB.out, sts_bad (by rw [HL.out]; exact hkn) (by rw [HKD.out]; exact HE.out)]; rfl, HB1.out⟩
    · obtain rfl : k = m := by omega
      go_wp2_with fail
      go_ret
      exact ⟨by rw [HBB.out, sts_ok (fun j hj => hE.out j (by rw [HL.out] at hj; exact hj))]; rfl, HB1.out⟩
set_option maxRecDepth 100000 in
set_option maxHeartbeats 2000000 in
theorem kids_25 (a : Option Addr) (c : Nat) (l : List Nd) (ka : Option Addr) (kc m : Nat) (ks : List Int) (n : Int) (s : ByteArray) (at_ : Int) (w : World) (hN : Nodes w a l) (hk : Rows' .i64 w ka m (fun j => ks.getD j 0)) (hcap : m ≤ kc) (hI : InL l ks) (hm : m = ks.length) (hml : m ≤ 140737488351232) (hll : l.length ≤ 9223372036854775807) :
    Calls Tryz.prog 26 #[.slice a l.length c, .agg #[.int .i64 25, .slice ka m kc, .int .i64 n, .string s, .int .i64 at_]] w fun e w' => e = .returned (.bool (kidsB 25 (kd l ks))) ∧ Below w.heap.size w w' := by
  have HM := hidden hm
  have HN := hidden hN
  have HK := hidden hk
  have HI := hidden hI
  clear hm hN hk hI
  have HB : Hid (Below w.heap.size w (w.alloc (.cells #[.int .i64 25, .slice ka m kc, .int .i64 n, .string s, .int .i64 at_] 59))) := (Below.refl _ _).alloc (Nat.le_refl _) _
  have HE : Hid (kidsB 25 (kd l ks) = (decide (1 ≤ m) && alls (kd l (ks.take (m - 1))) 24 8 && decide ((kd l ks).getD (m - 1) 0 = 23))) := by
    show _ = _
    try rw [HM.out]
    simp only [kidsB, kd_length, kd_drop, kd_take]
    rfl
  by_cases h2 : 1 ≤ m
  · have H2 := hidden h2
    obtain ⟨kb, ko, lb, lo, q, rfl, rfl, hc, hq, ⟨h5, _⟩, hkd, _⟩ := kid_at (j := m - 1) HN.out HK.out HI.out HM.out (by omega)
    have hb5 : Hid (lb < w.heap.size) := cell_lt h5
    have hbk : Hid (kb < w.heap.size) := cell_lt hc
    obtain ⟨p, hp⟩ : ∃ p, m = p + 1 := ⟨m - 1, by omega⟩
    subst hp
    rw [Nat.add_sub_cancel] at hc hkd HE
    have h5' := (World.cell?_alloc_lt w (.cells #[.int .i64 25, .slice (some ⟨kb, ko, none⟩) (p + 1) kc, .int .i64 n, .string s, .int .i64 at_] 59) ⟨lb, lo + q * 5, none⟩ hb5.out).trans h5
    have hc' := (World.cell?_alloc_lt w (.cells #[.int .i64 25, .slice (some ⟨kb, ko, none⟩) (p + 1) kc, .int .i64 n, .string s, .int .i64 at_] 59) ⟨kb, ko + p, none⟩ hbk.out).trans hc
    obtain ⟨Z, hZ⟩ : ∃ Z, Z = (nd l q).kind := ⟨_, rfl⟩
    rw [← hZ] at h5' hkd
    have HKD := hidden hkd
    clear hZ hkd h5 hc
    go_enter Tryz.func26, Tryz.ntmps26
    go_wp2_with fail
    refine (all_lit _ _ _ _ _ 8 _ _ l (ks.take p) _ (HN.out.below HB.out) (rows_take (HK.out.below HB.out) (by omega)) (HI.out.take p) (by rw [List.length_take, ← HM.out]; omega) (by omega) hll (by omega) rfl).mono ?_
    rintro e w1 ⟨rfl, hw1⟩
    rw [hw1]; clear hw1 w1
    cases he : alls (kd l (ks.take p)) 24 8 with
    | false =>
      have HAL := hidden he
      clear he
      go_wp2_with fail
      go_ret
      exact ⟨by rw [HE.out, HAL.out]; simp, HB.out⟩
    | true =>
      have HAL := hidden he
      clear he
      by_cases hz : Z = 23
      · have hz' : (Z == 23) = true := by simp [hz]
        have HEX := hidden hz
        clear hz
        go_wp2_with fail
        go_ret
        exact ⟨by rw [HE.out, HAL.out, HKD.out, decide_eq_true HEX.out]; simp, HB.out⟩
      · have hz' : (Z == 23) = false := by simp [hz]
        have HEX := hidden hz
        clear hz
        go_wp2_with fail
        go_ret
        exact ⟨by rw [HE.out, HAL.out, HKD.out, decide_eq_false HEX.out]; simp, HB.out⟩
  · have H2 := hidden h2
    go_enter Tryz.func26, Tryz.ntmps26
    go_wp2_with fail
    go_ret
    exact ⟨by rw [HE.out, decide_eq_false H2.out]; rfl, HB.out⟩
set_option maxRecDepth 100000 in
set_option maxHeartbeats 2000000 in
theorem kids_26 (a : Option Addr) (c : Nat) (l : List Nd) (ka : Option Addr) (kc m : Nat) (ks : List Int) (n : Int) (s : ByteArray) (at_ : Int) (w : World) (hN : Nodes w a l) (hk : Rows' .i64 w ka m (fun j => ks.getD j 0)) (hcap : m ≤ kc) (hI : InL l ks) (hm : m = ks.length) (hml : m ≤ 140737488351232) (hll : l.length ≤ 9223372036854775807) :
    Calls Tryz.prog 26 #[.slice a l.length c, .agg #[.int .i64 26, .slice ka m kc, .int .i64 n, .string s, .int .i64 at_]] w fun e w' => e = .returned (.bool (kidsB 26 (kd l ks))) ∧ Below w.heap.size w w' := by
  have HM := hidden hm
  have HN := hidden hN
  have HK := hidden hk
  have HI := hidden hI
  clear hm hN hk hI
  have HB : Hid (Below w.heap.size w (w.alloc (.cells #[.int .i64 26, .slice ka m kc, .int .i64 n, .string s, .int .i64 at_] 59))) := (Below.refl _ _).alloc (Nat.le_refl _) _
  have HE : Hid (kidsB 26 (kd l ks) = (alls (kd l ks) 25 200)) := by
    show _ = _
    try rw [HM.out]
    simp only [kidsB, kd_length, kd_drop, kd_take]
    rfl
  go_enter Tryz.func26, Tryz.ntmps26
  go_wp2_with fail
  refine (all_lit _ _ _ _ _ 200 _ _ l ks _ (HN.out.below HB.out) (HK.out.below HB.out) HI.out HM.out hml hll (by omega) rfl).mono ?_
  rintro e w1 ⟨rfl, hw1⟩
  rw [hw1]; clear hw1 w1
  obtain ⟨B, hB⟩ : ∃ B, B = alls (kd l ks) 25 200 := ⟨_, rfl⟩
  rw [← hB] at HE ⊢
  clear hB
  go_wp2_with fail
  go_ret
  exact ⟨by rw [HE.out]; rfl, HB.out⟩
set_option maxRecDepth 100000 in
set_option maxHeartbeats 2000000 in
theorem kids_other (K : Int) (a : Option Addr) (c : Nat) (l : List Nd) (ka : Option Addr) (kc m : Nat) (ks : List Int) (n : Int) (s : ByteArray) (at_ : Int) (w : World) (hN : Nodes w a l) (hk : Rows' .i64 w ka m (fun j => ks.getD j 0)) (hcap : m ≤ kc) (hI : InL l ks) (hm : m = ks.length) (hml : m ≤ 140737488351232) (hll : l.length ≤ 9223372036854775807) (hK : K ≠ 5 ∧ K ≠ 8 ∧ K ≠ 14 ∧ K ≠ 6 ∧ K ≠ 7 ∧ K ≠ 9 ∧ K ≠ 10 ∧ K ≠ 12 ∧ K ≠ 13 ∧ K ≠ 20 ∧ K ≠ 21 ∧ K ≠ 11 ∧ K ≠ 15 ∧ K ≠ 16 ∧ K ≠ 17 ∧ K ≠ 22 ∧ K ≠ 23 ∧ K ≠ 25 ∧ K ≠ 26) :
    Calls Tryz.prog 26 #[.slice a l.length c, .agg #[.int .i64 K, .slice ka m kc, .int .i64 n, .string s, .int .i64 at_]] w fun e w' => e = .returned (.bool (kidsB K (kd l ks))) ∧ Below w.heap.size w w' := by
  have HM := hidden hm
  have HN := hidden hN
  have HK := hidden hk
  have HI := hidden hI
  clear hm hN hk hI
  have HB : Hid (Below w.heap.size w (w.alloc (.cells #[.int .i64 K, .slice ka m kc, .int .i64 n, .string s, .int .i64 at_] 59))) := (Below.refl _ _).alloc (Nat.le_refl _) _
  have HE : Hid (kidsB K (kd l ks) = decide (m = 0)) := by
    show _ = _
    rw [HM.out]
    unfold kidsB
    rw [kd_length]
    simp [hK]
  obtain ⟨g5, g8, g14, g6, g7, g9, g10, g12, g13, g20, g21, g11, g15, g16, g17, g22, g23, g25, g26⟩ := hK
  have e5 : (K == 5) = false := by simpa using g5
  have e8 : (K == 8) = false := by simpa using g8
  have e14 : (K == 14) = false := by simpa using g14
  have e6 : (K == 6) = false := by simpa using g6
  have e7 : (K == 7) = false := by simpa using g7
  have e9 : (K == 9) = false := by simpa using g9
  have e10 : (K == 10) = false := by simpa using g10
  have e12 : (K == 12) = false := by simpa using g12
  have e13 : (K == 13) = false := by simpa using g13
  have e20 : (K == 20) = false := by simpa using g20
  have e21 : (K == 21) = false := by simpa using g21
  have e11 : (K == 11) = false := by simpa using g11
  have e15 : (K == 15) = false := by simpa using g15
  have e16 : (K == 16) = false := by simpa using g16
  have e17 : (K == 17) = false := by simpa using g17
  have e22 : (K == 22) = false := by simpa using g22
  have e23 : (K == 23) = false := by simpa using g23
  have e25 : (K == 25) = false := by simpa using g25
  have e26 : (K == 26) = false := by simpa using g26
  clear g5 g8 g14 g6 g7 g9 g10 g12 g13 g20 g21 g11 g15 g16 g17 g22 g23 g25 g26
  by_cases h2 : m = 0
  · have h2' : ((m : Int) == 0) = true := by simp [h2]
    have H2 := hidden h2
    clear h2
    go_enter Tryz.func26, Tryz.ntmps26
    go_wp2_with fail
    go_ret
    exact ⟨by rw [HE.out, decide_eq_true H2.out]; rfl, HB.out⟩
  · have h2' : ((m : Int) == 0) = false := by simp; omega
    have H2 := hidden h2
    clear h2
    go_enter Tryz.func26, Tryz.ntmps26
    go_wp2_with fail
    go_ret
    exact ⟨by rw [HE.out, decide_eq_false H2.out]; rfl, HB.out⟩
/-- kids, whatever the kind -/
theorem kids_any (a : Option Addr) (c : Nat) (l : List Nd) (x : Nd) (w : World) (hN : Nodes w a l) (hx : Ok w x) (hI : InL l x.kids) (hll : l.length ≤ 9223372036854775807) :
    Calls Tryz.prog 26 #[.slice a l.length c, x.v] w fun e w' => e = .returned (.bool (kidsB x.kind (kk l x))) ∧ Below w.heap.size w w' := by
  obtain ⟨K, ka, kc, ks, n, s, at_⟩ := x
  have h1 := hx.rows
  have h2 := hx.cap
  have h3 := hx.len
  show Calls Tryz.prog 26 #[.slice a l.length c, .agg #[.int .i64 K, .slice ka ks.length kc, .int .i64 n, .string s, .int .i64 at_]] w fun e w' => e = .returned (.bool (kidsB K (kd l ks))) ∧ Below w.heap.size w w'
  by_cases g5 : K = 5
  · subst g5; exact kids_5 a c l ka kc ks.length ks n s at_ w hN h1 h2 hI rfl h3 hll
  by_cases g8 : K = 8
  · subst g8; exact kids_8 a c l ka kc ks.length ks n s at_ w hN h1 h2 hI rfl h3 hll
  by_cases g14 : K = 14
  · subst g14; exact kids_14 a c l ka kc ks.length ks n s at_ w hN h1 h2 hI rfl h3 hll
  by_cases g6 : K = 6
  · subst g6; exact kids_6 a c l ka kc ks.length ks n s at_ w hN h1 h2 hI rfl h3 hll
  by_cases g7 : K = 7
  · subst g7; exact kids_7 a c l ka kc ks.length ks n s at_ w hN h1 h2 hI rfl h3 hll
  by_cases g9 : K = 9
  · subst g9; exact kids_9 a c l ka kc ks.length ks n s at_ w hN h1 h2 hI rfl h3 hll
  by_cases g10 : K = 10
  · subst g10; exact kids_10 a c l ka kc ks.length ks n s at_ w hN h1 h2 hI rfl h3 hll
  by_cases g12 : K = 12
  · subst g12; exact kids_12 a c l ka kc ks.length ks n s at_ w hN h1 h2 hI rfl h3 hll
  by_cases g13 : K = 13
  · subst g13; exact kids_13 a c l ka kc ks.length ks n s at_ w hN h1 h2 hI rfl h3 hll
  by_cases g20 : K = 20
  · subst g20; exact kids_20 a c l ka kc ks.length ks n s at_ w hN h1 h2 hI rfl h3 hll
  by_cases g21 : K = 21
  · subst g21; exact kids_21 a c l ka kc ks.length ks n s at_ w hN h1 h2 hI rfl h3 hll
  by_cases g11 : K = 11
  · subst g11; exact kids_11 a c l ka kc ks.length ks n s at_ w hN h1 h2 hI rfl h3 hll
  by_cases g15 : K = 15
  · subst g15; exact kids_15 a c l ka kc ks.length ks n s at_ w hN h1 h2 hI rfl h3 hll
  by_cases g16 : K = 16
  · subst g16; exact kids_16 a c l ka kc ks.length ks n s at_ w hN h1 h2 hI rfl h3 hll
  by_cases g17 : K = 17
  · subst g17; exact kids_17 a c l ka kc ks.length ks n s at_ w hN h1 h2 hI rfl h3 hll
  by_cases g22 : K = 22
  · subst g22; exact kids_22 a c l ka kc ks.length ks n s at_ w hN h1 h2 hI rfl h3 hll
  by_cases g23 : K = 23
  · subst g23; exact kids_23 a c l ka kc ks.length ks n s at_ w hN h1 h2 hI rfl h3 hll
  by_cases g25 : K = 25
  · subst g25; exact kids_25 a c l ka kc ks.length ks n s at_ w hN h1 h2 hI rfl h3 hll
  by_cases g26 : K = 26
  · subst g26; exact kids_26 a c l ka kc ks.length ks n s at_ w hN h1 h2 hI rfl h3 hll
  exact kids_other K a c l ka kc ks.length ks n s at_ w hN h1 h2 hI rfl h3 hll ⟨g5, g8, g14, g6, g7, g9, g10, g12, g13, g20, g21, g11, g15, g16, g17, g22, g23, g25, g26⟩
end Go.Proofs.YtagacfcpepoaoaaGreatDoor
