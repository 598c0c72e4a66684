/- The walk through tree's kidsFit. -/
import Derived.Test.YtihcepkdihmjoaaDoorTreeRefOwn
import Derived.Laws.BitsAllLaws
namespace Go.Proofs.YtihcepkdihmjoaaDoor
open Go.RowKit
set_option linter.unusedVariables false

/-- is a kind among those of a part? -/
def hitB (m : Nat) (k : Int) : Bool := (isOf k.toNat &&& m) != 0
/-- how many are so at the beginning -/
def run1 (m : Nat) (ks : List Int) : Nat := (ks.takeWhile (hitB m)).length
/-- what is left behind some parts -/
def rem (p : Nat → Pt) (ks : List Int) : Nat → Option (List Int)
  | 0 => some ks
  | i + 1 => match rem p ks i with
    | none => none
    | some r => if btw (p i).lo (p i).hi (run1 (p i).is r : Int) then some (r.drop (run1 (p i).is r)) else none
def greedy (p : Nat → Pt) (ks : List Int) : Bool := match rem p ks 2 with
  | none => false
  | some r => decide (r.length = 0)
theorem run1_at {m : Nat} : ∀ {ks : List Int} {k : Nat}, (∀ j, j < k → hitB m (ks.getD j 0) = true) → k ≤ ks.length → (k < ks.length → hitB m (ks.getD k 0) = false) → run1 m ks = k
  | [], k, _, hk, _ => by simp at hk; simp [run1, hk]
  | x :: r, 0, _, _, h => by
    have := h (by simp)
    have h' : hitB m x = false := this
    simp [run1, h']
  | x :: r, k + 1, h, hk, h2 => by
    have h0 : hitB m x = true := h 0 (by omega)
    have ih := run1_at (m := m) (ks := r) (k := k) (fun j hj => by have := h (j + 1) (by omega); simpa using this) (by simpa using hk) (fun hlt => by have := h2 (by simpa using hlt); simpa using this)
    unfold run1 at ih ⊢
    rw [List.takeWhile_cons, h0]
    simp [ih]
theorem run1_le (m : Nat) (ks : List Int) : run1 m ks ≤ ks.length := (List.takeWhile_prefix _).length_le
theorem rem_next {p : Nat → Pt} {ks r : List Int} {i : Nat} (h : rem p ks i = some r) (hb : btw (p i).lo (p i).hi (run1 (p i).is r : Int) = true) : rem p ks (i + 1) = some (r.drop (run1 (p i).is r)) := by
  simp only [rem, h, hb, if_true]
theorem rem_stop {p : Nat → Pt} {ks r : List Int} {i : Nat} (h : rem p ks i = some r) (hb : btw (p i).lo (p i).hi (run1 (p i).is r : Int) = false) : rem p ks (i + 1) = none := by
  simp [rem, h, hb]
theorem rem_none {p : Nat → Pt} {ks : List Int} {i : Nat} (h : rem p ks i = none) : rem p ks (i + 1) = none := by
  simp [rem, h]
theorem greedy_stop {p : Nat → Pt} {ks : List Int} {i : Nat} (hi : i < 2) (h : rem p ks (i + 1) = none) : greedy p ks = false := by
  have : rem p ks 2 = none := by
    rcases (show i = 0 ∨ i = 1 by omega) with rfl | rfl
    · exact rem_none h
    · exact h
  simp [greedy, this]
theorem greedy_end {p : Nat → Pt} {ks r : List Int} (h : rem p ks 2 = some r) : greedy p ks = decide (r.length = 0) := by
  simp [greedy, h]
/-- the two parts' value -/
def partsV (p : Nat → Pt) : Value := .agg #[.int .u8 ((p 0).is : Int), .int .i64 (p 0).lo, .int .i64 (p 0).hi, .int .u8 ((p 1).is : Int), .int .i64 (p 1).lo, .int .i64 (p 1).hi]
theorem parts_ix (p : Nat → Pt) (i : Nat) (hi : i < 2) (w : World) : (Instr.index 72 (partsV p) (.int .i64 (i : Int))).run Tryd.prog w = .ok (.agg #[.int .u8 ((p i).is : Int), .int .i64 (p i).lo, .int .i64 (p i).hi]) w := by
  rcases (show i = 0 ∨ i = 1 by omega) with rfl | rfl
  · kernel_rfl
  · kernel_rfl
/-- the kinds of kids are kinds -/
def KindsIn (ks : List Int) : Prop := ∀ j, j < ks.length → ∃ k : Nat, ks.getD j 0 = (k : Int) ∧ k < 27
theorem KindsIn.drop {ks : List Int} (h : KindsIn ks) (d : Nat) : KindsIn (ks.drop d) := by
  intro j hj
  rw [List.length_drop] at hj
  obtain ⟨k, h1, h2⟩ := h (d + j) (by omega)
  exact ⟨k, by rw [drop_get]; exact h1, h2⟩
set_option maxRecDepth 100000 in
set_option maxHeartbeats 4000000 in
theorem kidsFit_any (a ka : Option Addr) (c kc m : Nat) (l : List Nd) (ks : List Int) (p : Nat → Pt) (w : World) (hT : Tabs w) (hN : Nodes w a l) (hk : Rows' .i64 w ka m (fun j => ks.getD j 0)) (hI : InL l ks) (hKn : KindsIn (kd l ks)) (hp : ∀ i, (p i).is < 256)
    (hm : m = ks.length) (hcap : m ≤ kc) (hml : m ≤ 140737488351232) (hll : l.length ≤ 9223372036854775807) :
    Calls Tryd.prog 43 #[.slice a l.length c, .slice ka m kc, partsV p] w fun e w' => e = .returned (.bool (greedy p (kd l ks))) ∧ Below w.heap.size w w' := by
  have HM := hidden hm
  have HN := hidden hN
  have HK := hidden hk
  have HI := hidden hI
  have HT := hidden hT
  have HKN := hidden hKn
  have HP := hidden hp
  clear hm hN hk hI hT hKn hp
  obtain ⟨G, hG⟩ : ∃ G, G = greedy p (kd l ks) := ⟨_, rfl⟩
  rw [← hG]
  have HG := hidden hG
  clear hG
  have HB0 : Hid (Below w.heap.size w (w.alloc (.cells #[.int .u8 ((p 0).is : Int), .int .i64 (p 0).lo, .int .i64 (p 0).hi, .int .u8 ((p 1).is : Int), .int .i64 (p 1).lo, .int .i64 (p 1).hi] 72))) := (Below.refl _ _).alloc (Nat.le_refl _) _
  obtain ⟨V, hV⟩ : ∃ V, V = partsV p := ⟨_, rfl⟩
  have HV := hidden hV
  unfold partsV
  go_enter Tryd.func43, Tryd.ntmps43
  go_wp2_with fail
  unfold partsV at hV
  rw [← hV]
  clear hV
  go_loopw [1, 8, 9, 11] (fun s1 _ _ t wr => ∃ (i : Nat) (ks' : List Int) (ka' : Option Addr) (kc' m' : Nat), i ≤ 2 ∧ t = .int .i64 (i : Int) ∧ s1 = .slice ka' m' kc' ∧ m' ≤ kc' ∧ m' ≤ 140737488351232 ∧ Hid (m' = ks'.length) ∧ Hid (rem p (kd l ks) i = some (kd l ks')) ∧ Hid (Rows' .i64 wr ka' m' (fun j => ks'.getD j 0)) ∧ Hid (InL l ks') ∧ Hid (KindsIn (kd l ks')) ∧ Hid (Below w.heap.size w wr)) (fun _ _ _ t _ => 2 - (intOf t).toNat)
  case atStart => exact ⟨0, ks, ka, kc, m, by omega, rfl, rfl, hcap, hml, HM, rfl, HK.out.below HB0.out, HI, HKN, HB0⟩
  case round =>
    obtain ⟨i, ks', ka', kc', m', hi, rfl, rfl, hcap', hml', HM', HREM, HK', HI', HKN', HB⟩ := hrel
    by_cases hi2 : i < 2
    · have hix := parts_ix p i hi2
      rw [← HV.out] at hix
      obtain ⟨q, hq⟩ : ∃ q, q = p i := ⟨_, rfl⟩
      rw [← hq] at hix
      have hpis : q.is < 256 := by rw [hq]; exact HP.out i
      obtain ⟨pis, lo, hi'⟩ := q
      have HQ := hidden hq
      clear hq
      go_wp2_with fail
      obtain ⟨w1, hw1⟩ : ∃ w1, w1 = wr.alloc (.cells #[.int .u8 (pis : Int), .int .i64 lo, .int .i64 hi'] 71) := ⟨_, rfl⟩
      have HB1 : Hid (Below wr.heap.size wr w1) := by rw [hw1]; exact (Below.refl _ _).alloc (Nat.le_refl _) _
      have HH : Hid (Held w1 wr.heap.size 71 #[.int .u8 (pis : Int), .int .i64 lo, .int .i64 hi']) := by rw [hw1]; exact Held.new wr _ _
      have HBW : Hid (Below w.heap.size w w1) := HB.out.trans (HB1.out.mono HB.out.size)
      have HK1 := hidden (HK'.out.below HB1.out)
      have HN1 := hidden (HN.out.below HBW.out)
      have HT1 := hidden (HT.out.below HBW.out)
      obtain ⟨g, hg⟩ : ∃ g, g = wr.heap.size := ⟨_, rfl⟩
      rw [← hw1, ← hg]
      rw [← hg] at HH
      clear hw1 hg HB1 HK' HB
      obtain ⟨wo, rfl⟩ : ∃ wo, wo = wr := ⟨_, rfl⟩
      have cp := HH.out.at_ (j := 0) (v := .int .u8 (pis : Int)) rfl
      go_loopw [9] (fun t wr => ∃ k q : Nat, k ≤ m' ∧ t = .int .i64 (k : Int) ∧ wr = w1.drewN q ∧ Hid (∀ j, j < k → hitB pis ((kd l ks').getD j 0) = true)) (fun t _ => m' - (intOf t).toNat)
      case atStart => exact ⟨0, 0, by omega, rfl, rfl, fun j hj => by omega⟩
      case round =>
        obtain ⟨k, q, hk, rfl, rfl, hE⟩ := hrel
        by_cases hkm : k < m'
        · have hkmi : (k : Int) < (m' : Int) := by omega
          obtain ⟨kb, ko, lb, lo', u, rfl, rfl, hc, hu, ⟨h5, _⟩, hkd, _⟩ := kid_at (j := k) HN1.out HK1.out HI'.out HM'.out hkm
          obtain ⟨z, hz, hz27⟩ := HKN'.out k (by rw [kd_length, ← HM'.out]; exact hkm)
          rw [hz] at hkd
          rw [← hkd] at h5
          have hui : (u : Int) < (l.length : Int) := by omega
          have hzi : (z : Int) < 27 := by omega
          have ht := cell_tab HT1.out.rows (row_is z hz27)
          have hbits := u8_and_nat (isOf z) pis (isOf_lt z hz27) hpis
          obtain ⟨x, hx⟩ : ∃ x, x = isOf z &&& pis := ⟨_, rfl⟩
          have HHIT : Hid (hitB pis ((kd l ks').getD k 0) = (x != 0)) := by
            show _ = _
            rw [hz, hx]
            unfold hitB
            rw [Int.toNat_natCast]
          rw [← hx] at hbits
          clear hx hkd hz
          obtain ⟨y, hy⟩ : ∃ y, y = isOf z := ⟨_, rfl⟩
          rw [← hy] at ht hbits
          clear hy
          by_cases hx0 : x = 0
          · have hx0' : ((x : Int) != 0) = false := by simp [hx0]
            have HR : Hid (run1 pis (kd l ks') = k) := by
              refine run1_at hE.out (by rw [kd_length, ← HM'.out]; exact hk) (fun _ => ?_)
              rw [HHIT.out, hx0]
              rfl
            have cl := HH.out.at_ (j := 1) (v := .int .i64 lo) rfl
            have ch := HH.out.at_ (j := 2) (v := .int .i64 hi') rfl
            have hcne : ¬ kc' = k := by omega
            clear hx0
            go_wp2_with fail
            go_quiet (fail)
            go_wp2_with fail
            refine (within_any (k : Int) lo hi' _).mono ?_
            rintro e w2 ⟨rfl, hb2⟩
            have HB2 : Hid (Below w1.heap.size w1 w2) := (below_drewN w1 _ _).trans hb2
            have HBX : Hid (Below w.heap.size w w2) := HBW.out.trans (HB2.out.mono HBW.out.size)
            clear hb2
            cases hbt : btw lo hi' (k : Int) with
            | false =>
              have HBT := hidden hbt
              clear hbt
              go_wp2_with fail
              go_ret
              exact ⟨by rw [HG.out, greedy_stop hi2 (rem_stop HREM.out (by rw [← HQ.out, HR.out]; exact HBT.out))]; rfl, HBX.out⟩
            | true =>
              have HBT := hidden hbt
              clear hbt
              go_wp2_with fail
              go_roundw
              case rel => exact ⟨i + 1, ks'.drop k, _, _, _, by omega, by go_num, rfl, by omega, by omega, (by have h := HM'.out; show _ = _; rw [List.length_drop]; omega), (by
                have h := rem_next HREM.out (by rw [← HQ.out, HR.out]; exact HBT.out)
                rw [← HQ.out, HR.out, kd_drop] at h
                exact h), (rows_drop (d := k) (HK1.out.below HB2.out)), HI'.out.drop k, (by show KindsIn _; rw [← kd_drop]; exact HKN'.out.drop k), HBX⟩
              case measure => simp [intOf]; omega
          · have hx0' : ((x : Int) != 0) = true := by simp; omega
            have HX : Hid (hitB pis ((kd l ks').getD k 0) = true) := by
              show _ = _
              rw [HHIT.out]
              simpa using hx0
            go_wp2_with fail
            go_quiet (fail)
            go_wp2_with fail
            go_roundw
            case rel => exact ⟨k + 1, _, by omega, by go_num, rfl, fun j hj => by
              rcases Nat.lt_or_ge j k with h | h
              · exact hE.out j h
              · rw [show j = k by omega]; exact HX.out⟩
            case measure => simp [intOf]; omega
        · obtain rfl : k = m' := by omega
          have HR : Hid (run1 pis (kd l ks') = k) := run1_at hE.out (by rw [kd_length, ← HM'.out]; exact hk) (fun h => by rw [kd_length, ← HM'.out] at h; omega)
          have cl := HH.out.at_ (j := 1) (v := .int .i64 lo) rfl
          have ch := HH.out.at_ (j := 2) (v := .int .i64 hi') rfl
          have hkk : decide (k < k) = false := by simp
          go_wp2_with fail
          go_quiet (fail)
          go_wp2_with fail
          refine (within_any (k : Int) lo hi' _).mono ?_
          rintro e w2 ⟨rfl, hb2⟩
          have HB2 : Hid (Below w1.heap.size w1 w2) := (below_drewN w1 _ _).trans hb2
          have HBX : Hid (Below w.heap.size w w2) := HBW.out.trans (HB2.out.mono HBW.out.size)
          clear hb2
          cases hbt : btw lo hi' (k : Int) with
          | false =>
            have HBT := hidden hbt
            clear hbt
            go_wp2_with fail
            go_ret
            exact ⟨by rw [HG.out, greedy_stop hi2 (rem_stop HREM.out (by rw [← HQ.out, HR.out]; exact HBT.out))]; rfl, HBX.out⟩
          | true =>
            have HBT := hidden hbt
            clear hbt
            by_cases hck : k = kc'
            · subst hck
              go_wp2_with fail
              go_roundw
              case rel => exact ⟨i + 1, ks'.drop k, _, _, _, by omega, by go_num, rfl, by omega, by omega, (by have h := HM'.out; show _ = _; rw [List.length_drop]; omega), (by
                have h := rem_next HREM.out (by rw [← HQ.out, HR.out]; exact HBT.out)
                rw [← HQ.out, HR.out, kd_drop] at h
                exact h), (fun h => by omega), HI'.out.drop k, (by show KindsIn _; rw [← kd_drop]; exact HKN'.out.drop k), HBX⟩
              case measure => simp [intOf]; omega
            · skip
              go_wp2_with fail
              go_roundw
              case rel => exact ⟨i + 1, ks'.drop k, _, _, _, by omega, by go_num, rfl, by omega, by omega, (by have h := HM'.out; show _ = _; rw [List.length_drop]; omega), (by
                have h := rem_next HREM.out (by rw [← HQ.out, HR.out]; exact HBT.out)
                rw [← HQ.out, HR.out, kd_drop] at h
                exact h), (fun h => by omega), HI'.out.drop k, (by show KindsIn _; rw [← kd_drop]; exact HKN'.out.drop k), HBX⟩
              case measure => simp [intOf]; omega
    · obtain rfl : i = 2 := by omega
      by_cases h0 : m' = 0
      · have h0' : ((m' : Int) == 0) = true := by simp [h0]
        have H0 := hidden h0
        clear h0
        go_wp2_with fail
        go_ret
        exact ⟨by rw [HG.out, greedy_end HREM.out, kd_length, ← HM'.out, decide_eq_true H0.out]; rfl, HB.out⟩
      · have h0' : ((m' : Int) == 0) = false := by simp; omega
        have H0 := hidden h0
        clear h0
        go_wp2_with fail
        go_ret
        exact ⟨by rw [HG.out, greedy_end HREM.out, kd_length, ← HM'.out, decide_eq_false H0.out]; rfl, HB.out⟩
end Go.Proofs.YtihcepkdihmjoaaDoor
