/- The walk through the reference's kids, kind by kind (the rest). -/
import Derived.Test.YtihcepkdihmjoaaDoorTreeRefKids2
namespace Go.Proofs.YtihcepkdihmjoaaDoor
open Go.RowKit
set_option linter.unusedVariables false

set_option maxRecDepth 100000 in
set_option maxHeartbeats 2000000 in
theorem kids_22 (a : Option Addr) (c : Nat) (l : List Nd) (ka : Option Addr) (kc m : Nat) (ks : List Int) (n : Int) (s : ByteArray) (at_ : Int) (w : World) (hN : Nodes w a l) (hk : Rows' .i64 w ka m (fun j => ks.getD j 0)) (hcap : m ≤ kc) (hI : InL l ks) (hm : m = ks.length) (hml : m ≤ 140737488351232) (hll : l.length ≤ 9223372036854775807) :
    Calls Tryd.prog 31 #[.slice a l.length c, .agg #[.int .i64 22, .slice ka m kc, .int .i64 n, .string s, .int .i64 at_]] w fun e w' => e = .returned (.bool (kidsB 22 (kd l ks))) ∧ Below w.heap.size w w' := by
  have HM := hidden hm
  have HN := hidden hN
  have HK := hidden hk
  have HI := hidden hI
  clear hm hN hk hI
  have HB : Hid (Below w.heap.size w (w.alloc (.cells #[.int .i64 22, .slice ka m kc, .int .i64 n, .string s, .int .i64 at_] 36))) := (Below.refl _ _).alloc (Nat.le_refl _) _
  have HE : Hid (kidsB 22 (kd l ks) = (decide (m = 1) && decide ((kd l ks).getD 0 0 = 11))) := by
    show _ = _
    try rw [HM.out]
    simp only [kidsB, kd_length, kd_drop, kd_take]
    rfl
  by_cases h2 : m = 1
  · have h2' : ((m : Int) == 1) = true := by simp [h2]
    obtain ⟨kb, ko, lb, lo, q, rfl, rfl, hc, hq, ⟨h5, _⟩, hkd, _⟩ := kid_at (j := 0) HN.out HK.out HI.out HM.out (by omega)
    have hb5 : Hid (lb < w.heap.size) := cell_lt h5
    have hbk : Hid (kb < w.heap.size) := cell_lt hc
    have h5' := (World.cell?_alloc_lt w (.cells #[.int .i64 22, .slice (some ⟨kb, ko, none⟩) m kc, .int .i64 n, .string s, .int .i64 at_] 36) ⟨lb, lo + q * 5, none⟩ hb5.out).trans h5
    have hc' := (World.cell?_alloc_lt w (.cells #[.int .i64 22, .slice (some ⟨kb, ko, none⟩) m kc, .int .i64 n, .string s, .int .i64 at_] 36) ⟨kb, ko + 0, none⟩ hbk.out).trans hc
    rw [Nat.add_zero] at hc'
    obtain ⟨Z, hZ⟩ : ∃ Z, Z = (nd l q).kind := ⟨_, rfl⟩
    rw [← hZ] at h5' hkd
    have HKD := hidden hkd
    have H2 := hidden h2
    have hm1 : 1 ≤ m := by omega
    clear hZ hkd h2 h5 hc
    by_cases he : Z = 11
    · have he' : (Z == 11) = true := by simp [he]
      have HEX := hidden he
      clear he
      go_enter Tryd.func31, Tryd.ntmps31
      go_wp2_with fail
      go_ret
      exact ⟨by rw [HE.out, decide_eq_true H2.out, HKD.out, decide_eq_true HEX.out]; rfl, HB.out⟩
    · have he' : (Z == 11) = false := by simp [he]
      have HEX := hidden he
      clear he
      go_enter Tryd.func31, Tryd.ntmps31
      go_wp2_with fail
      go_ret
      exact ⟨by rw [HE.out, decide_eq_true H2.out, HKD.out, decide_eq_false HEX.out]; rfl, HB.out⟩
  · have h2' : ((m : Int) == 1) = false := by simp; omega
    have H2 := hidden h2
    clear h2
    go_enter Tryd.func31, Tryd.ntmps31
    go_wp2_with fail
    go_ret
    exact ⟨by rw [HE.out, decide_eq_false H2.out]; rfl, HB.out⟩
theorem sts_bad {ks : List Int} {k : Nat} (hk : k < ks.length) (h : isSt (ks.getD k 0) = false) : ks.all isSt = false := by
  rw [List.all_eq_false]
  refine ⟨ks[k], List.getElem_mem hk, ?_⟩
  rw [List.getD_eq_getElem?_getD, List.getElem?_eq_getElem hk] at h
  have h' : isSt ks[k] = false := h
  simp [h']
theorem sts_ok {ks : List Int} (h : ∀ k, k < ks.length → isSt (ks.getD k 0) = true) : ks.all isSt = true := by
  rw [List.all_eq_true]
  intro x hx
  obtain ⟨k, hk, rfl⟩ := List.mem_iff_getElem.1 hx
  have := h k hk
  rw [List.getD_eq_getElem?_getD, List.getElem?_eq_getElem hk] at this
  exact this
set_option maxRecDepth 100000 in
set_option maxHeartbeats 2000000 in
theorem kids_23 (a : Option Addr) (c : Nat) (l : List Nd) (ka : Option Addr) (kc m : Nat) (ks : List Int) (n : Int) (s : ByteArray) (at_ : Int) (w : World) (hN : Nodes w a l) (hk : Rows' .i64 w ka m (fun j => ks.getD j 0)) (hcap : m ≤ kc) (hI : InL l ks) (hm : m = ks.length) (hml : m ≤ 140737488351232) (hll : l.length ≤ 9223372036854775807) :
    Calls Tryd.prog 31 #[.slice a l.length c, .agg #[.int .i64 23, .slice ka m kc, .int .i64 n, .string s, .int .i64 at_]] w fun e w' => e = .returned (.bool (kidsB 23 (kd l ks))) ∧ Below w.heap.size w w' := by
  have HM := hidden hm
  have HN := hidden hN
  have HK := hidden hk
  have HI := hidden hI
  clear hm hN hk hI
  have HB : Hid (Below w.heap.size w (w.alloc (.cells #[.int .i64 23, .slice ka m kc, .int .i64 n, .string s, .int .i64 at_] 36))) := (Below.refl _ _).alloc (Nat.le_refl _) _
  have HE : Hid (kidsB 23 (kd l ks) = ((kd l ks).all isSt)) := by
    show _ = _
    try rw [HM.out]
    simp only [kidsB, kd_length, kd_drop, kd_take]
    rfl
  have HL : Hid ((kd l ks).length = m) := by show _ = m; rw [kd_length, ← HM.out]
  obtain ⟨B, hB⟩ : ∃ B, B = kidsB 23 (kd l ks) := ⟨_, rfl⟩
  rw [← hB]
  have HBB : Hid (B = (kd l ks).all isSt) := hB.trans HE.out
  clear hB HE
  go_enter Tryd.func31, Tryd.ntmps31
  go_wp2_with fail
  obtain ⟨w1, hw1⟩ : ∃ w1, w1 = w.alloc (.cells #[.int .i64 23, .slice ka m kc, .int .i64 n, .string s, .int .i64 at_] 36) := ⟨_, rfl⟩
  have HB1 : Hid (Below w.heap.size w w1) := by rw [hw1]; exact HB.out
  have HN1 := hidden (HN.out.below HB1.out)
  have HK1 := hidden (HK.out.below HB1.out)
  rw [← hw1]
  clear hw1 HB
  go_loop [6] (fun i => ∃ k : Nat, k ≤ m ∧ i = .int .i64 (k : Int) ∧ Hid (∀ j, j < k → isSt ((kd l ks).getD j 0) = true)) (fun i => m - (intOf i).toNat)
  case atStart => exact ⟨0, by omega, rfl, fun j hj => by omega⟩
  case round =>
    obtain ⟨k, hk, rfl, hE⟩ := hrel
    by_cases hkn : k < m
    · obtain ⟨kb, ko, lb, lo, q, rfl, rfl, hc, hq, ⟨h5, _⟩, hkd, _⟩ := kid_at (j := k) HN1.out HK1.out HI.out HM.out (by omega)
      obtain ⟨Z, hZ⟩ : ∃ Z, Z = (nd l q).kind := ⟨_, rfl⟩
      rw [← hZ] at h5 hkd
      have HKD := hidden hkd
      clear hZ hkd
      go_wp2_with fail
      refine (stmt_any Z w1).mono ?_
      rintro e w2 ⟨rfl, hw2⟩
      rw [hw2]; clear hw2 w2
      cases he : isSt Z with
      | true =>
        have HE := hidden he
        clear he
        go_wp2_with fail
        go_round
        case rel => exact ⟨k + 1, by omega, by go_num, fun j hj => by
          rcases Nat.lt_or_ge j k with h | h
          · exact hE.out j h
          · rw [show j = k by omega, HKD.out]; exact HE.out⟩
        case measure => simp [intOf]; omega
      | false =>
        have HE := hidden he
        clear he
        go_wp2_with fail
        go_ret
        exact ⟨by rw [HBB.out, sts_bad (by rw [HL.out]; exact hkn) (by rw [HKD.out]; exact HE.out)]; rfl, HB1.out⟩
    · obtain rfl : k = m := by omega
      go_wp2_with fail
      go_ret
      exact ⟨by rw [HBB.out, sts_ok (fun j hj => hE.out j (by rw [HL.out] at hj; exact hj))]; rfl, HB1.out⟩
set_option maxRecDepth 100000 in
set_option maxHeartbeats 2000000 in
theorem kids_25 (a : Option Addr) (c : Nat) (l : List Nd) (ka : Option Addr) (kc m : Nat) (ks : List Int) (n : Int) (s : ByteArray) (at_ : Int) (w : World) (hN : Nodes w a l) (hk : Rows' .i64 w ka m (fun j => ks.getD j 0)) (hcap : m ≤ kc) (hI : InL l ks) (hm : m = ks.length) (hml : m ≤ 140737488351232) (hll : l.length ≤ 9223372036854775807) :
    Calls Tryd.prog 31 #[.slice a l.length c, .agg #[.int .i64 25, .slice ka m kc, .int .i64 n, .string s, .int .i64 at_]] w fun e w' => e = .returned (.bool (kidsB 25 (kd l ks))) ∧ Below w.heap.size w w' := by
  have HM := hidden hm
  have HN := hidden hN
  have HK := hidden hk
  have HI := hidden hI
  clear hm hN hk hI
  have HB : Hid (Below w.heap.size w (w.alloc (.cells #[.int .i64 25, .slice ka m kc, .int .i64 n, .string s, .int .i64 at_] 36))) := (Below.refl _ _).alloc (Nat.le_refl _) _
  have HE : Hid (kidsB 25 (kd l ks) = (decide (1 ≤ m) && alls (kd l (ks.take (m - 1))) 24 8 && decide ((kd l ks).getD (m - 1) 0 = 23))) := by
    show _ = _
    try rw [HM.out]
    simp only [kidsB, kd_length, kd_drop, kd_take]
    rfl
  by_cases h2 : 1 ≤ m
  · have H2 := hidden h2
    obtain ⟨kb, ko, lb, lo, q, rfl, rfl, hc, hq, ⟨h5, _⟩, hkd, _⟩ := kid_at (j := m - 1) HN.out HK.out HI.out HM.out (by omega)
    have hb5 : Hid (lb < w.heap.size) := cell_lt h5
    have hbk : Hid (kb < w.heap.size) := cell_lt hc
    obtain ⟨p, hp⟩ : ∃ p, m = p + 1 := ⟨m - 1, by omega⟩
    subst hp
    rw [Nat.add_sub_cancel] at hc hkd HE
    have h5' := (World.cell?_alloc_lt w (.cells #[.int .i64 25, .slice (some ⟨kb, ko, none⟩) (p + 1) kc, .int .i64 n, .string s, .int .i64 at_] 36) ⟨lb, lo + q * 5, none⟩ hb5.out).trans h5
    have hc' := (World.cell?_alloc_lt w (.cells #[.int .i64 25, .slice (some ⟨kb, ko, none⟩) (p + 1) kc, .int .i64 n, .string s, .int .i64 at_] 36) ⟨kb, ko + p, none⟩ hbk.out).trans hc
    obtain ⟨Z, hZ⟩ : ∃ Z, Z = (nd l q).kind := ⟨_, rfl⟩
    rw [← hZ] at h5' hkd
    have HKD := hidden hkd
    clear hZ hkd h5 hc
    go_enter Tryd.func31, Tryd.ntmps31
    go_wp2_with fail
    refine (all_lit _ _ _ _ _ 8 _ _ l (ks.take p) _ (HN.out.below HB.out) (rows_take (HK.out.below HB.out) (by omega)) (HI.out.take p) (by rw [List.length_take, ← HM.out]; omega) (by omega) hll (by omega) rfl).mono ?_
    rintro e w1 ⟨rfl, hw1⟩
    rw [hw1]; clear hw1 w1
    cases he : alls (kd l (ks.take p)) 24 8 with
    | false =>
      have HAL := hidden he
      clear he
      go_wp2_with fail
      go_ret
      exact ⟨by rw [HE.out, HAL.out]; simp, HB.out⟩
    | true =>
      have HAL := hidden he
      clear he
      by_cases hz : Z = 23
      · have hz' : (Z == 23) = true := by simp [hz]
        have HEX := hidden hz
        clear hz
        go_wp2_with fail
        go_ret
        exact ⟨by rw [HE.out, HAL.out, HKD.out, decide_eq_true HEX.out]; simp, HB.out⟩
      · have hz' : (Z == 23) = false := by simp [hz]
        have HEX := hidden hz
        clear hz
        go_wp2_with fail
        go_ret
        exact ⟨by rw [HE.out, HAL.out, HKD.out, decide_eq_false HEX.out]; simp, HB.out⟩
  · have H2 := hidden h2
    go_enter Tryd.func31, Tryd.ntmps31
    go_wp2_with fail
    go_ret
    exact ⟨by rw [HE.out, decide_eq_false H2.out]; rfl, HB.out⟩
set_option maxRecDepth 100000 in
set_option maxHeartbeats 2000000 in
theorem kids_26 (a : Option Addr) (c : Nat) (l : List Nd) (ka : Option Addr) (kc m : Nat) (ks : List Int) (n : Int) (s : ByteArray) (at_ : Int) (w : World) (hN : Nodes w a l) (hk : Rows' .i64 w ka m (fun j => ks.getD j 0)) (hcap : m ≤ kc) (hI : InL l ks) (hm : m = ks.length) (hml : m ≤ 140737488351232) (hll : l.length ≤ 9223372036854775807) :
    Calls Tryd.prog 31 #[.slice a l.length c, .agg #[.int .i64 26, .slice ka m kc, .int .i64 n, .string s, .int .i64 at_]] w fun e w' => e = .returned (.bool (kidsB 26 (kd l ks))) ∧ Below w.heap.size w w' := by
  have HM := hidden hm
  have HN := hidden hN
  have HK := hidden hk
  have HI := hidden hI
  clear hm hN hk hI
  have HB : Hid (Below w.heap.size w (w.alloc (.cells #[.int .i64 26, .slice ka m kc, .int .i64 n, .string s, .int .i64 at_] 36))) := (Below.refl _ _).alloc (Nat.le_refl _) _
  have HE : Hid (kidsB 26 (kd l ks) = (alls (kd l ks) 25 200)) := by
    show _ = _
    try rw [HM.out]
    simp only [kidsB, kd_length, kd_drop, kd_take]
    rfl
  go_enter Tryd.func31, Tryd.ntmps31
  go_wp2_with fail
  refine (all_lit _ _ _ _ _ 200 _ _ l ks _ (HN.out.below HB.out) (HK.out.below HB.out) HI.out HM.out hml hll (by omega) rfl).mono ?_
  rintro e w1 ⟨rfl, hw1⟩
  rw [hw1]; clear hw1 w1
  obtain ⟨B, hB⟩ : ∃ B, B = alls (kd l ks) 25 200 := ⟨_, rfl⟩
  rw [← hB] at HE ⊢
  clear hB
  go_wp2_with fail
  go_ret
  exact ⟨by rw [HE.out]; rfl, HB.out⟩
set_option maxRecDepth 100000 in
set_option maxHeartbeats 2000000 in
theorem kids_other (K : Int) (a : Option Addr) (c : Nat) (l : List Nd) (ka : Option Addr) (kc m : Nat) (ks : List Int) (n : Int) (s : ByteArray) (at_ : Int) (w : World) (hN : Nodes w a l) (hk : Rows' .i64 w ka m (fun j => ks.getD j 0)) (hcap : m ≤ kc) (hI : InL l ks) (hm : m = ks.length) (hml : m ≤ 140737488351232) (hll : l.length ≤ 9223372036854775807) (hK : K ≠ 5 ∧ K ≠ 8 ∧ K ≠ 14 ∧ K ≠ 6 ∧ K ≠ 7 ∧ K ≠ 9 ∧ K ≠ 10 ∧ K ≠ 12 ∧ K ≠ 13 ∧ K ≠ 20 ∧ K ≠ 21 ∧ K ≠ 11 ∧ K ≠ 15 ∧ K ≠ 16 ∧ K ≠ 17 ∧ K ≠ 22 ∧ K ≠ 23 ∧ K ≠ 25 ∧ K ≠ 26) :
    Calls Tryd.prog 31 #[.slice a l.length c, .agg #[.int .i64 K, .slice ka m kc, .int .i64 n, .string s, .int .i64 at_]] w fun e w' => e = .returned (.bool (kidsB K (kd l ks))) ∧ Below w.heap.size w w' := by
  have HM := hidden hm
  have HN := hidden hN
  have HK := hidden hk
  have HI := hidden hI
  clear hm hN hk hI
  have HB : Hid (Below w.heap.size w (w.alloc (.cells #[.int .i64 K, .slice ka m kc, .int .i64 n, .string s, .int .i64 at_] 36))) := (Below.refl _ _).alloc (Nat.le_refl _) _
  have HE : Hid (kidsB K (kd l ks) = decide (m = 0)) := by
    show _ = _
    rw [HM.out]
    unfold kidsB
    rw [kd_length]
    simp [hK]
  obtain ⟨g5, g8, g14, g6, g7, g9, g10, g12, g13, g20, g21, g11, g15, g16, g17, g22, g23, g25, g26⟩ := hK
  have e5 : (K == 5) = false := by simpa using g5
  have e8 : (K == 8) = false := by simpa using g8
  have e14 : (K == 14) = false := by simpa using g14
  have e6 : (K == 6) = false := by simpa using g6
  have e7 : (K == 7) = false := by simpa using g7
  have e9 : (K == 9) = false := by simpa using g9
  have e10 : (K == 10) = false := by simpa using g10
  have e12 : (K == 12) = false := by simpa using g12
  have e13 : (K == 13) = false := by simpa using g13
  have e20 : (K == 20) = false := by simpa using g20
  have e21 : (K == 21) = false := by simpa using g21
  have e11 : (K == 11) = false := by simpa using g11
  have e15 : (K == 15) = false := by simpa using g15
  have e16 : (K == 16) = false := by simpa using g16
  have e17 : (K == 17) = false := by simpa using g17
  have e22 : (K == 22) = false := by simpa using g22
  have e23 : (K == 23) = false := by simpa using g23
  have e25 : (K == 25) = false := by simpa using g25
  have e26 : (K == 26) = false := by simpa using g26
  clear g5 g8 g14 g6 g7 g9 g10 g12 g13 g20 g21 g11 g15 g16 g17 g22 g23 g25 g26
  by_cases h2 : m = 0
  · have h2' : ((m : Int) == 0) = true := by simp [h2]
    have H2 := hidden h2
    clear h2
    go_enter Tryd.func31, Tryd.ntmps31
    go_wp2_with fail
    go_ret
    exact ⟨by rw [HE.out, decide_eq_true H2.out]; rfl, HB.out⟩
  · have h2' : ((m : Int) == 0) = false := by simp; omega
    have H2 := hidden h2
    clear h2
    go_enter Tryd.func31, Tryd.ntmps31
    go_wp2_with fail
    go_ret
    exact ⟨by rw [HE.out, decide_eq_false H2.out]; rfl, HB.out⟩
/-- kids, whatever the kind -/
theorem kids_any (a : Option Addr) (c : Nat) (l : List Nd) (x : Nd) (w : World) (hN : Nodes w a l) (hx : Ok w x) (hI : InL l x.kids) (hll : l.length ≤ 9223372036854775807) :
    Calls Tryd.prog 31 #[.slice a l.length c, x.v] w fun e w' => e = .returned (.bool (kidsB x.kind (kk l x))) ∧ Below w.heap.size w w' := by
  obtain ⟨K, ka, kc, ks, n, s, at_⟩ := x
  have h1 := hx.rows
  have h2 := hx.cap
  have h3 := hx.len
  show Calls Tryd.prog 31 #[.slice a l.length c, .agg #[.int .i64 K, .slice ka ks.length kc, .int .i64 n, .string s, .int .i64 at_]] w fun e w' => e = .returned (.bool (kidsB K (kd l ks))) ∧ Below w.heap.size w w'
  by_cases g5 : K = 5
  · subst g5; exact kids_5 a c l ka kc ks.length ks n s at_ w hN h1 h2 hI rfl h3 hll
  by_cases g8 : K = 8
  · subst g8; exact kids_8 a c l ka kc ks.length ks n s at_ w hN h1 h2 hI rfl h3 hll
  by_cases g14 : K = 14
  · subst g14; exact kids_14 a c l ka kc ks.length ks n s at_ w hN h1 h2 hI rfl h3 hll
  by_cases g6 : K = 6
  · subst g6; exact kids_6 a c l ka kc ks.length ks n s at_ w hN h1 h2 hI rfl h3 hll
  by_cases g7 : K = 7
  · subst g7; exact kids_7 a c l ka kc ks.length ks n s at_ w hN h1 h2 hI rfl h3 hll
  by_cases g9 : K = 9
  · subst g9; exact kids_9 a c l ka kc ks.length ks n s at_ w hN h1 h2 hI rfl h3 hll
  by_cases g10 : K = 10
  · subst g10; exact kids_10 a c l ka kc ks.length ks n s at_ w hN h1 h2 hI rfl h3 hll
  by_cases g12 : K = 12
  · subst g12; exact kids_12 a c l ka kc ks.length ks n s at_ w hN h1 h2 hI rfl h3 hll
  by_cases g13 : K = 13
  · subst g13; exact kids_13 a c l ka kc ks.length ks n s at_ w hN h1 h2 hI rfl h3 hll
  by_cases g20 : K = 20
  · subst g20; exact kids_20 a c l ka kc ks.length ks n s at_ w hN h1 h2 hI rfl h3 hll
  by_cases g21 : K = 21
  · subst g21; exact kids_21 a c l ka kc ks.length ks n s at_ w hN h1 h2 hI rfl h3 hll
  by_cases g11 : K = 11
  · subst g11; exact kids_11 a c l ka kc ks.length ks n s at_ w hN h1 h2 hI rfl h3 hll
  by_cases g15 : K = 15
  · subst g15; exact kids_15 a c l ka kc ks.length ks n s at_ w hN h1 h2 hI rfl h3 hll
  by_cases g16 : K = 16
  · subst g16; exact kids_16 a c l ka kc ks.length ks n s at_ w hN h1 h2 hI rfl h3 hll
  by_cases g17 : K = 17
  · subst g17; exact kids_17 a c l ka kc ks.length ks n s at_ w hN h1 h2 hI rfl h3 hll
  by_cases g22 : K = 22
  · subst g22; exact kids_22 a c l ka kc ks.length ks n s at_ w hN h1 h2 hI rfl h3 hll
  by_cases g23 : K = 23
  · subst g23; exact kids_23 a c l ka kc ks.length ks n s at_ w hN h1 h2 hI rfl h3 hll
  by_cases g25 : K = 25
  · subst g25; exact kids_25 a c l ka kc ks.length ks n s at_ w hN h1 h2 hI rfl h3 hll
  by_cases g26 : K = 26
  · subst g26; exact kids_26 a c l ka kc ks.length ks n s at_ w hN h1 h2 hI rfl h3 hll
  exact kids_other K a c l ka kc ks.length ks n s at_ w hN h1 h2 hI rfl h3 hll ⟨g5, g8, g14, g6, g7, g9, g10, g12, g13, g20, g21, g11, g15, g16, g17, g22, g23, g25, g26⟩
end Go.Proofs.YtihcepkdihmjoaaDoor
