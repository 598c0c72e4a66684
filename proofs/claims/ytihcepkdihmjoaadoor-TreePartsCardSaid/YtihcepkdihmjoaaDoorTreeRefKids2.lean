/- The walk through the reference's kids, kind by kind. -/
import Derived.Test.YtihcepkdihmjoaaDoorTreeRefKids
namespace Go.Proofs.YtihcepkdihmjoaaDoor
open Go.RowKit
set_option linter.unusedVariables false

theorem exprs_lit (a ka : Option Addr) (c kc m n : Nat) (z : Int) (l : List Nd) (ks : List Int) (w : World) (hN : Nodes w a l) (hk : Rows' .i64 w ka m (fun j => ks.getD j 0)) (hI : InL l ks) (hm : m = ks.length) (hml : m ≤ 140737488351232) (hll : l.length ≤ 9223372036854775807) (hn : n ≤ 140737488351232) (hz : z = (n : Int)) :
    Calls Tryd.prog 47 #[.slice a l.length c, .slice ka m kc, .int .i64 z] w fun e w' => e = .returned (.bool (exprs (kd l ks) n)) ∧ w' = w := by
  subst hz; exact exprs_any a ka c kc m n l ks w hN hk hI hm hml hll hn
theorem all_lit (a ka : Option Addr) (c kc m n : Nat) (K z : Int) (l : List Nd) (ks : List Int) (w : World) (hN : Nodes w a l) (hk : Rows' .i64 w ka m (fun j => ks.getD j 0)) (hI : InL l ks) (hm : m = ks.length) (hml : m ≤ 140737488351232) (hll : l.length ≤ 9223372036854775807) (hn : n ≤ 140737488351232) (hz : z = (n : Int)) :
    Calls Tryd.prog 48 #[.slice a l.length c, .slice ka m kc, .int .i64 K, .int .i64 z] w fun e w' => e = .returned (.bool (alls (kd l ks) K n)) ∧ w' = w := by
  subst hz; exact all_any a ka c kc m n K l ks w hN hk hI hm hml hll hn
theorem rows_drop {w : World} {ka : Option Addr} {m d : Nat} {ks : List Int} (h : Rows' .i64 w ka m (fun j => ks.getD j 0)) : Rows' .i64 w (Option.map (fun x => (⟨x.block, x.off + d, none⟩ : Addr)) ka) (m - d) (fun j => (ks.drop d).getD j 0) := by
  intro hp
  obtain ⟨b, off, rfl, hlt, hc⟩ := h (by omega)
  refine ⟨b, off + d, rfl, hlt, fun j hj => ?_⟩
  simp only [drop_get, Nat.add_assoc]
  exact hc (d + j) (by omega)
theorem rows_take {w : World} {ka : Option Addr} {m d : Nat} {ks : List Int} (h : Rows' .i64 w ka m (fun j => ks.getD j 0)) (hd : d ≤ m) : Rows' .i64 w ka d (fun j => (ks.take d).getD j 0) := by
  intro hp
  obtain ⟨b, off, rfl, hlt, hc⟩ := h (by omega)
  refine ⟨b, off, rfl, hlt, fun j hj => ?_⟩
  simp only [take_get ks d j hj]
  exact hc j (by omega)
theorem InL.drop {l : List Nd} {ks : List Int} (h : InL l ks) (d : Nat) : InL l (ks.drop d) := by
  intro j hj
  rw [List.length_drop] at hj
  obtain ⟨q, h1, h2⟩ := h (d + j) (by omega)
  exact ⟨q, by rw [drop_get]; exact h1, h2⟩
theorem InL.take {l : List Nd} {ks : List Int} (h : InL l ks) (d : Nat) : InL l (ks.take d) := by
  intro j hj
  rw [List.length_take] at hj
  obtain ⟨q, h1, h2⟩ := h j (by omega)
  exact ⟨q, by rw [take_get ks d j (by omega)]; exact h1, h2⟩
theorem kd_drop (l : List Nd) (ks : List Int) (d : Nat) : (kd l ks).drop d = kd l (ks.drop d) := by unfold kd; rw [List.map_drop]
theorem kd_take (l : List Nd) (ks : List Int) (d : Nat) : (kd l ks).take d = kd l (ks.take d) := by unfold kd; rw [List.map_take]
set_option maxRecDepth 100000 in
set_option maxHeartbeats 2000000 in
theorem kids_5 (a : Option Addr) (c : Nat) (l : List Nd) (ka : Option Addr) (kc m : Nat) (ks : List Int) (n : Int) (s : ByteArray) (at_ : Int) (w : World) (hN : Nodes w a l) (hk : Rows' .i64 w ka m (fun j => ks.getD j 0)) (hcap : m ≤ kc) (hI : InL l ks) (hm : m = ks.length) (hml : m ≤ 140737488351232) (hll : l.length ≤ 9223372036854775807) :
    Calls Tryd.prog 31 #[.slice a l.length c, .agg #[.int .i64 5, .slice ka m kc, .int .i64 n, .string s, .int .i64 at_]] w fun e w' => e = .returned (.bool (kidsB 5 (kd l ks))) ∧ Below w.heap.size w w' := by
  have HM := hidden hm
  have HN := hidden hN
  have HK := hidden hk
  have HI := hidden hI
  clear hm hN hk hI
  have HB : Hid (Below w.heap.size w (w.alloc (.cells #[.int .i64 5, .slice ka m kc, .int .i64 n, .string s, .int .i64 at_] 36))) := (Below.refl _ _).alloc (Nat.le_refl _) _
  have HE : Hid (kidsB 5 (kd l ks) = (decide (m = 2) && exprs (kd l ks) 2)) := by
    show _ = _
    try rw [HM.out]
    simp only [kidsB, kd_length, kd_drop, kd_take]
    rfl
  by_cases h2 : m = 2
  · have h2' : ((m : Int) == 2) = true := by simp [h2]
    have H2 := hidden h2
    clear h2
    go_enter Tryd.func31, Tryd.ntmps31
    go_wp2_with fail
    refine (exprs_lit _ _ _ _ _ 2 _ l ks _ (HN.out.below HB.out) (HK.out.below HB.out) HI.out HM.out hml hll (by omega) rfl).mono ?_
    rintro e w1 ⟨rfl, hw1⟩
    rw [hw1]; clear hw1 w1
    cases he : exprs (kd l ks) 2
    all_goals
      have HEX := hidden he
      clear he
      go_wp2_with fail
      go_ret
      exact ⟨by rw [HE.out, HEX.out, decide_eq_true H2.out]; rfl, HB.out⟩
  · have h2' : ((m : Int) == 2) = false := by simp; omega
    have H2 := hidden h2
    clear h2
    go_enter Tryd.func31, Tryd.ntmps31
    go_wp2_with fail
    go_ret
    exact ⟨by rw [HE.out, decide_eq_false H2.out]; rfl, HB.out⟩
set_option maxRecDepth 100000 in
set_option maxHeartbeats 2000000 in
theorem kids_8 (a : Option Addr) (c : Nat) (l : List Nd) (ka : Option Addr) (kc m : Nat) (ks : List Int) (n : Int) (s : ByteArray) (at_ : Int) (w : World) (hN : Nodes w a l) (hk : Rows' .i64 w ka m (fun j => ks.getD j 0)) (hcap : m ≤ kc) (hI : InL l ks) (hm : m = ks.length) (hml : m ≤ 140737488351232) (hll : l.length ≤ 9223372036854775807) :
    Calls Tryd.prog 31 #[.slice a l.length c, .agg #[.int .i64 8, .slice ka m kc, .int .i64 n, .string s, .int .i64 at_]] w fun e w' => e = .returned (.bool (kidsB 8 (kd l ks))) ∧ Below w.heap.size w w' := by
  have HM := hidden hm
  have HN := hidden hN
  have HK := hidden hk
  have HI := hidden hI
  clear hm hN hk hI
  have HB : Hid (Below w.heap.size w (w.alloc (.cells #[.int .i64 8, .slice ka m kc, .int .i64 n, .string s, .int .i64 at_] 36))) := (Below.refl _ _).alloc (Nat.le_refl _) _
  have HE : Hid (kidsB 8 (kd l ks) = (decide (m = 2) && exprs (kd l ks) 2)) := by
    show _ = _
    try rw [HM.out]
    simp only [kidsB, kd_length, kd_drop, kd_take]
    rfl
  by_cases h2 : m = 2
  · have h2' : ((m : Int) == 2) = true := by simp [h2]
    have H2 := hidden h2
    clear h2
    go_enter Tryd.func31, Tryd.ntmps31
    go_wp2_with fail
    refine (exprs_lit _ _ _ _ _ 2 _ l ks _ (HN.out.below HB.out) (HK.out.below HB.out) HI.out HM.out hml hll (by omega) rfl).mono ?_
    rintro e w1 ⟨rfl, hw1⟩
    rw [hw1]; clear hw1 w1
    cases he : exprs (kd l ks) 2
    all_goals
      have HEX := hidden he
      clear he
      go_wp2_with fail
      go_ret
      exact ⟨by rw [HE.out, HEX.out, decide_eq_true H2.out]; rfl, HB.out⟩
  · have h2' : ((m : Int) == 2) = false := by simp; omega
    have H2 := hidden h2
    clear h2
    go_enter Tryd.func31, Tryd.ntmps31
    go_wp2_with fail
    go_ret
    exact ⟨by rw [HE.out, decide_eq_false H2.out]; rfl, HB.out⟩
set_option maxRecDepth 100000 in
set_option maxHeartbeats 2000000 in
theorem kids_14 (a : Option Addr) (c : Nat) (l : List Nd) (ka : Option Addr) (kc m : Nat) (ks : List Int) (n : Int) (s : ByteArray) (at_ : Int) (w : World) (hN : Nodes w a l) (hk : Rows' .i64 w ka m (fun j => ks.getD j 0)) (hcap : m ≤ kc) (hI : InL l ks) (hm : m = ks.length) (hml : m ≤ 140737488351232) (hll : l.length ≤ 9223372036854775807) :
    Calls Tryd.prog 31 #[.slice a l.length c, .agg #[.int .i64 14, .slice ka m kc, .int .i64 n, .string s, .int .i64 at_]] w fun e w' => e = .returned (.bool (kidsB 14 (kd l ks))) ∧ Below w.heap.size w w' := by
  have HM := hidden hm
  have HN := hidden hN
  have HK := hidden hk
  have HI := hidden hI
  clear hm hN hk hI
  have HB : Hid (Below w.heap.size w (w.alloc (.cells #[.int .i64 14, .slice ka m kc, .int .i64 n, .string s, .int .i64 at_] 36))) := (Below.refl _ _).alloc (Nat.le_refl _) _
  have HE : Hid (kidsB 14 (kd l ks) = (decide (m = 2) && exprs (kd l ks) 2)) := by
    show _ = _
    try rw [HM.out]
    simp only [kidsB, kd_length, kd_drop, kd_take]
    rfl
  by_cases h2 : m = 2
  · have h2' : ((m : Int) == 2) = true := by simp [h2]
    have H2 := hidden h2
    clear h2
    go_enter Tryd.func31, Tryd.ntmps31
    go_wp2_with fail
    refine (exprs_lit _ _ _ _ _ 2 _ l ks _ (HN.out.below HB.out) (HK.out.below HB.out) HI.out HM.out hml hll (by omega) rfl).mono ?_
    rintro e w1 ⟨rfl, hw1⟩
    rw [hw1]; clear hw1 w1
    cases he : exprs (kd l ks) 2
    all_goals
      have HEX := hidden he
      clear he
      go_wp2_with fail
      go_ret
      exact ⟨by rw [HE.out, HEX.out, decide_eq_true H2.out]; rfl, HB.out⟩
  · have h2' : ((m : Int) == 2) = false := by simp; omega
    have H2 := hidden h2
    clear h2
    go_enter Tryd.func31, Tryd.ntmps31
    go_wp2_with fail
    go_ret
    exact ⟨by rw [HE.out, decide_eq_false H2.out]; rfl, HB.out⟩
set_option maxRecDepth 100000 in
set_option maxHeartbeats 2000000 in
theorem kids_6 (a : Option Addr) (c : Nat) (l : List Nd) (ka : Option Addr) (kc m : Nat) (ks : List Int) (n : Int) (s : ByteArray) (at_ : Int) (w : World) (hN : Nodes w a l) (hk : Rows' .i64 w ka m (fun j => ks.getD j 0)) (hcap : m ≤ kc) (hI : InL l ks) (hm : m = ks.length) (hml : m ≤ 140737488351232) (hll : l.length ≤ 9223372036854775807) :
    Calls Tryd.prog 31 #[.slice a l.length c, .agg #[.int .i64 6, .slice ka m kc, .int .i64 n, .string s, .int .i64 at_]] w fun e w' => e = .returned (.bool (kidsB 6 (kd l ks))) ∧ Below w.heap.size w w' := by
  have HM := hidden hm
  have HN := hidden hN
  have HK := hidden hk
  have HI := hidden hI
  clear hm hN hk hI
  have HB : Hid (Below w.heap.size w (w.alloc (.cells #[.int .i64 6, .slice ka m kc, .int .i64 n, .string s, .int .i64 at_] 36))) := (Below.refl _ _).alloc (Nat.le_refl _) _
  have HE : Hid (kidsB 6 (kd l ks) = (decide (m = 1) && exprs (kd l ks) 1)) := by
    show _ = _
    try rw [HM.out]
    simp only [kidsB, kd_length, kd_drop, kd_take]
    rfl
  by_cases h2 : m = 1
  · have h2' : ((m : Int) == 1) = true := by simp [h2]
    have H2 := hidden h2
    clear h2
    go_enter Tryd.func31, Tryd.ntmps31
    go_wp2_with fail
    refine (exprs_lit _ _ _ _ _ 1 _ l ks _ (HN.out.below HB.out) (HK.out.below HB.out) HI.out HM.out hml hll (by omega) rfl).mono ?_
    rintro e w1 ⟨rfl, hw1⟩
    rw [hw1]; clear hw1 w1
    cases he : exprs (kd l ks) 1
    all_goals
      have HEX := hidden he
      clear he
      go_wp2_with fail
      go_ret
      exact ⟨by rw [HE.out, HEX.out, decide_eq_true H2.out]; rfl, HB.out⟩
  · have h2' : ((m : Int) == 1) = false := by simp; omega
    have H2 := hidden h2
    clear h2
    go_enter Tryd.func31, Tryd.ntmps31
    go_wp2_with fail
    go_ret
    exact ⟨by rw [HE.out, decide_eq_false H2.out]; rfl, HB.out⟩
set_option maxRecDepth 100000 in
set_option maxHeartbeats 2000000 in
theorem kids_7 (a : Option Addr) (c : Nat) (l : List Nd) (ka : Option Addr) (kc m : Nat) (ks : List Int) (n : Int) (s : ByteArray) (at_ : Int) (w : World) (hN : Nodes w a l) (hk : Rows' .i64 w ka m (fun j => ks.getD j 0)) (hcap : m ≤ kc) (hI : InL l ks) (hm : m = ks.length) (hml : m ≤ 140737488351232) (hll : l.length ≤ 9223372036854775807) :
    Calls Tryd.prog 31 #[.slice a l.length c, .agg #[.int .i64 7, .slice ka m kc, .int .i64 n, .string s, .int .i64 at_]] w fun e w' => e = .returned (.bool (kidsB 7 (kd l ks))) ∧ Below w.heap.size w w' := by
  have HM := hidden hm
  have HN := hidden hN
  have HK := hidden hk
  have HI := hidden hI
  clear hm hN hk hI
  have HB : Hid (Below w.heap.size w (w.alloc (.cells #[.int .i64 7, .slice ka m kc, .int .i64 n, .string s, .int .i64 at_] 36))) := (Below.refl _ _).alloc (Nat.le_refl _) _
  have HE : Hid (kidsB 7 (kd l ks) = (decide (m = 1) && exprs (kd l ks) 1)) := by
    show _ = _
    try rw [HM.out]
    simp only [kidsB, kd_length, kd_drop, kd_take]
    rfl
  by_cases h2 : m = 1
  · have h2' : ((m : Int) == 1) = true := by simp [h2]
    have H2 := hidden h2
    clear h2
    go_enter Tryd.func31, Tryd.ntmps31
    go_wp2_with fail
    refine (exprs_lit _ _ _ _ _ 1 _ l ks _ (HN.out.below HB.out) (HK.out.below HB.out) HI.out HM.out hml hll (by omega) rfl).mono ?_
    rintro e w1 ⟨rfl, hw1⟩
    rw [hw1]; clear hw1 w1
    cases he : exprs (kd l ks) 1
    all_goals
      have HEX := hidden he
      clear he
      go_wp2_with fail
      go_ret
      exact ⟨by rw [HE.out, HEX.out, decide_eq_true H2.out]; rfl, HB.out⟩
  · have h2' : ((m : Int) == 1) = false := by simp; omega
    have H2 := hidden h2
    clear h2
    go_enter Tryd.func31, Tryd.ntmps31
    go_wp2_with fail
    go_ret
    exact ⟨by rw [HE.out, decide_eq_false H2.out]; rfl, HB.out⟩
set_option maxRecDepth 100000 in
set_option maxHeartbeats 2000000 in
theorem kids_9 (a : Option Addr) (c : Nat) (l : List Nd) (ka : Option Addr) (kc m : Nat) (ks : List Int) (n : Int) (s : ByteArray) (at_ : Int) (w : World) (hN : Nodes w a l) (hk : Rows' .i64 w ka m (fun j => ks.getD j 0)) (hcap : m ≤ kc) (hI : InL l ks) (hm : m = ks.length) (hml : m ≤ 140737488351232) (hll : l.length ≤ 9223372036854775807) :
    Calls Tryd.prog 31 #[.slice a l.length c, .agg #[.int .i64 9, .slice ka m kc, .int .i64 n, .string s, .int .i64 at_]] w fun e w' => e = .returned (.bool (kidsB 9 (kd l ks))) ∧ Below w.heap.size w w' := by
  have HM := hidden hm
  have HN := hidden hN
  have HK := hidden hk
  have HI := hidden hI
  clear hm hN hk hI
  have HB : Hid (Below w.heap.size w (w.alloc (.cells #[.int .i64 9, .slice ka m kc, .int .i64 n, .string s, .int .i64 at_] 36))) := (Below.refl _ _).alloc (Nat.le_refl _) _
  have HE : Hid (kidsB 9 (kd l ks) = (decide (m = 1) && exprs (kd l ks) 1)) := by
    show _ = _
    try rw [HM.out]
    simp only [kidsB, kd_length, kd_drop, kd_take]
    rfl
  by_cases h2 : m = 1
  · have h2' : ((m : Int) == 1) = true := by simp [h2]
    have H2 := hidden h2
    clear h2
    go_enter Tryd.func31, Tryd.ntmps31
    go_wp2_with fail
    refine (exprs_lit _ _ _ _ _ 1 _ l ks _ (HN.out.below HB.out) (HK.out.below HB.out) HI.out HM.out hml hll (by omega) rfl).mono ?_
    rintro e w1 ⟨rfl, hw1⟩
    rw [hw1]; clear hw1 w1
    cases he : exprs (kd l ks) 1
    all_goals
      have HEX := hidden he
      clear he
      go_wp2_with fail
      go_ret
      exact ⟨by rw [HE.out, HEX.out, decide_eq_true H2.out]; rfl, HB.out⟩
  · have h2' : ((m : Int) == 1) = false := by simp; omega
    have H2 := hidden h2
    clear h2
    go_enter Tryd.func31, Tryd.ntmps31
    go_wp2_with fail
    go_ret
    exact ⟨by rw [HE.out, decide_eq_false H2.out]; rfl, HB.out⟩
set_option maxRecDepth 100000 in
set_option maxHeartbeats 2000000 in
theorem kids_10 (a : Option Addr) (c : Nat) (l : List Nd) (ka : Option Addr) (kc m : Nat) (ks : List Int) (n : Int) (s : ByteArray) (at_ : Int) (w : World) (hN : Nodes w a l) (hk : Rows' .i64 w ka m (fun j => ks.getD j 0)) (hcap : m ≤ kc) (hI : InL l ks) (hm : m = ks.length) (hml : m ≤ 140737488351232) (hll : l.length ≤ 9223372036854775807) :
    Calls Tryd.prog 31 #[.slice a l.length c, .agg #[.int .i64 10, .slice ka m kc, .int .i64 n, .string s, .int .i64 at_]] w fun e w' => e = .returned (.bool (kidsB 10 (kd l ks))) ∧ Below w.heap.size w w' := by
  have HM := hidden hm
  have HN := hidden hN
  have HK := hidden hk
  have HI := hidden hI
  clear hm hN hk hI
  have HB : Hid (Below w.heap.size w (w.alloc (.cells #[.int .i64 10, .slice ka m kc, .int .i64 n, .string s, .int .i64 at_] 36))) := (Below.refl _ _).alloc (Nat.le_refl _) _
  have HE : Hid (kidsB 10 (kd l ks) = (decide (m = 1) && exprs (kd l ks) 1)) := by
    show _ = _
    try rw [HM.out]
    simp only [kidsB, kd_length, kd_drop, kd_take]
    rfl
  by_cases h2 : m = 1
  · have h2' : ((m : Int) == 1) = true := by simp [h2]
    have H2 := hidden h2
    clear h2
    go_enter Tryd.func31, Tryd.ntmps31
    go_wp2_with fail
    refine (exprs_lit _ _ _ _ _ 1 _ l ks _ (HN.out.below HB.out) (HK.out.below HB.out) HI.out HM.out hml hll (by omega) rfl).mono ?_
    rintro e w1 ⟨rfl, hw1⟩
    rw [hw1]; clear hw1 w1
    cases he : exprs (kd l ks) 1
    all_goals
      have HEX := hidden he
      clear he
      go_wp2_with fail
      go_ret
      exact ⟨by rw [HE.out, HEX.out, decide_eq_true H2.out]; rfl, HB.out⟩
  · have h2' : ((m : Int) == 1) = false := by simp; omega
    have H2 := hidden h2
    clear h2
    go_enter Tryd.func31, Tryd.ntmps31
    go_wp2_with fail
    go_ret
    exact ⟨by rw [HE.out, decide_eq_false H2.out]; rfl, HB.out⟩
set_option maxRecDepth 100000 in
set_option maxHeartbeats 2000000 in
theorem kids_12 (a : Option Addr) (c : Nat) (l : List Nd) (ka : Option Addr) (kc m : Nat) (ks : List Int) (n : Int) (s : ByteArray) (at_ : Int) (w : World) (hN : Nodes w a l) (hk : Rows' .i64 w ka m (fun j => ks.getD j 0)) (hcap : m ≤ kc) (hI : InL l ks) (hm : m = ks.length) (hml : m ≤ 140737488351232) (hll : l.length ≤ 9223372036854775807) :
    Calls Tryd.prog 31 #[.slice a l.length c, .agg #[.int .i64 12, .slice ka m kc, .int .i64 n, .string s, .int .i64 at_]] w fun e w' => e = .returned (.bool (kidsB 12 (kd l ks))) ∧ Below w.heap.size w w' := by
  have HM := hidden hm
  have HN := hidden hN
  have HK := hidden hk
  have HI := hidden hI
  clear hm hN hk hI
  have HB : Hid (Below w.heap.size w (w.alloc (.cells #[.int .i64 12, .slice ka m kc, .int .i64 n, .string s, .int .i64 at_] 36))) := (Below.refl _ _).alloc (Nat.le_refl _) _
  have HE : Hid (kidsB 12 (kd l ks) = (decide (m = 1) && exprs (kd l ks) 1)) := by
    show _ = _
    try rw [HM.out]
    simp only [kidsB, kd_length, kd_drop, kd_take]
    rfl
  by_cases h2 : m = 1
  · have h2' : ((m : Int) == 1) = true := by simp [h2]
    have H2 := hidden h2
    clear h2
    go_enter Tryd.func31, Tryd.ntmps31
    go_wp2_with fail
    refine (exprs_lit _ _ _ _ _ 1 _ l ks _ (HN.out.below HB.out) (HK.out.below HB.out) HI.out HM.out hml hll (by omega) rfl).mono ?_
    rintro e w1 ⟨rfl, hw1⟩
    rw [hw1]; clear hw1 w1
    cases he : exprs (kd l ks) 1
    all_goals
      have HEX := hidden he
      clear he
      go_wp2_with fail
      go_ret
      exact ⟨by rw [HE.out, HEX.out, decide_eq_true H2.out]; rfl, HB.out⟩
  · have h2' : ((m : Int) == 1) = false := by simp; omega
    have H2 := hidden h2
    clear h2
    go_enter Tryd.func31, Tryd.ntmps31
    go_wp2_with fail
    go_ret
    exact ⟨by rw [HE.out, decide_eq_false H2.out]; rfl, HB.out⟩
set_option maxRecDepth 100000 in
set_option maxHeartbeats 2000000 in
theorem kids_13 (a : Option Addr) (c : Nat) (l : List Nd) (ka : Option Addr) (kc m : Nat) (ks : List Int) (n : Int) (s : ByteArray) (at_ : Int) (w : World) (hN : Nodes w a l) (hk : Rows' .i64 w ka m (fun j => ks.getD j 0)) (hcap : m ≤ kc) (hI : InL l ks) (hm : m = ks.length) (hml : m ≤ 140737488351232) (hll : l.length ≤ 9223372036854775807) :
    Calls Tryd.prog 31 #[.slice a l.length c, .agg #[.int .i64 13, .slice ka m kc, .int .i64 n, .string s, .int .i64 at_]] w fun e w' => e = .returned (.bool (kidsB 13 (kd l ks))) ∧ Below w.heap.size w w' := by
  have HM := hidden hm
  have HN := hidden hN
  have HK := hidden hk
  have HI := hidden hI
  clear hm hN hk hI
  have HB : Hid (Below w.heap.size w (w.alloc (.cells #[.int .i64 13, .slice ka m kc, .int .i64 n, .string s, .int .i64 at_] 36))) := (Below.refl _ _).alloc (Nat.le_refl _) _
  have HE : Hid (kidsB 13 (kd l ks) = (decide (m = 1) && exprs (kd l ks) 1)) := by
    show _ = _
    try rw [HM.out]
    simp only [kidsB, kd_length, kd_drop, kd_take]
    rfl
  by_cases h2 : m = 1
  · have h2' : ((m : Int) == 1) = true := by simp [h2]
    have H2 := hidden h2
    clear h2
    go_enter Tryd.func31, Tryd.ntmps31
    go_wp2_with fail
    refine (exprs_lit _ _ _ _ _ 1 _ l ks _ (HN.out.below HB.out) (HK.out.below HB.out) HI.out HM.out hml hll (by omega) rfl).mono ?_
    rintro e w1 ⟨rfl, hw1⟩
    rw [hw1]; clear hw1 w1
    cases he : exprs (kd l ks) 1
    all_goals
      have HEX := hidden he
      clear he
      go_wp2_with fail
      go_ret
      exact ⟨by rw [HE.out, HEX.out, decide_eq_true H2.out]; rfl, HB.out⟩
  · have h2' : ((m : Int) == 1) = false := by simp; omega
    have H2 := hidden h2
    clear h2
    go_enter Tryd.func31, Tryd.ntmps31
    go_wp2_with fail
    go_ret
    exact ⟨by rw [HE.out, decide_eq_false H2.out]; rfl, HB.out⟩
set_option maxRecDepth 100000 in
set_option maxHeartbeats 2000000 in
theorem kids_20 (a : Option Addr) (c : Nat) (l : List Nd) (ka : Option Addr) (kc m : Nat) (ks : List Int) (n : Int) (s : ByteArray) (at_ : Int) (w : World) (hN : Nodes w a l) (hk : Rows' .i64 w ka m (fun j => ks.getD j 0)) (hcap : m ≤ kc) (hI : InL l ks) (hm : m = ks.length) (hml : m ≤ 140737488351232) (hll : l.length ≤ 9223372036854775807) :
    Calls Tryd.prog 31 #[.slice a l.length c, .agg #[.int .i64 20, .slice ka m kc, .int .i64 n, .string s, .int .i64 at_]] w fun e w' => e = .returned (.bool (kidsB 20 (kd l ks))) ∧ Below w.heap.size w w' := by
  have HM := hidden hm
  have HN := hidden hN
  have HK := hidden hk
  have HI := hidden hI
  clear hm hN hk hI
  have HB : Hid (Below w.heap.size w (w.alloc (.cells #[.int .i64 20, .slice ka m kc, .int .i64 n, .string s, .int .i64 at_] 36))) := (Below.refl _ _).alloc (Nat.le_refl _) _
  have HE : Hid (kidsB 20 (kd l ks) = (decide (m = 1) && exprs (kd l ks) 1)) := by
    show _ = _
    try rw [HM.out]
    simp only [kidsB, kd_length, kd_drop, kd_take]
    rfl
  by_cases h2 : m = 1
  · have h2' : ((m : Int) == 1) = true := by simp [h2]
    have H2 := hidden h2
    clear h2
    go_enter Tryd.func31, Tryd.ntmps31
    go_wp2_with fail
    refine (exprs_lit _ _ _ _ _ 1 _ l ks _ (HN.out.below HB.out) (HK.out.below HB.out) HI.out HM.out hml hll (by omega) rfl).mono ?_
    rintro e w1 ⟨rfl, hw1⟩
    rw [hw1]; clear hw1 w1
    cases he : exprs (kd l ks) 1
    all_goals
      have HEX := hidden he
      clear he
      go_wp2_with fail
      go_ret
      exact ⟨by rw [HE.out, HEX.out, decide_eq_true H2.out]; rfl, HB.out⟩
  · have h2' : ((m : Int) == 1) = false := by simp; omega
    have H2 := hidden h2
    clear h2
    go_enter Tryd.func31, Tryd.ntmps31
    go_wp2_with fail
    go_ret
    exact ⟨by rw [HE.out, decide_eq_false H2.out]; rfl, HB.out⟩
set_option maxRecDepth 100000 in
set_option maxHeartbeats 2000000 in
theorem kids_21 (a : Option Addr) (c : Nat) (l : List Nd) (ka : Option Addr) (kc m : Nat) (ks : List Int) (n : Int) (s : ByteArray) (at_ : Int) (w : World) (hN : Nodes w a l) (hk : Rows' .i64 w ka m (fun j => ks.getD j 0)) (hcap : m ≤ kc) (hI : InL l ks) (hm : m = ks.length) (hml : m ≤ 140737488351232) (hll : l.length ≤ 9223372036854775807) :
    Calls Tryd.prog 31 #[.slice a l.length c, .agg #[.int .i64 21, .slice ka m kc, .int .i64 n, .string s, .int .i64 at_]] w fun e w' => e = .returned (.bool (kidsB 21 (kd l ks))) ∧ Below w.heap.size w w' := by
  have HM := hidden hm
  have HN := hidden hN
  have HK := hidden hk
  have HI := hidden hI
  clear hm hN hk hI
  have HB : Hid (Below w.heap.size w (w.alloc (.cells #[.int .i64 21, .slice ka m kc, .int .i64 n, .string s, .int .i64 at_] 36))) := (Below.refl _ _).alloc (Nat.le_refl _) _
  have HE : Hid (kidsB 21 (kd l ks) = (decide (m = 1) && exprs (kd l ks) 1)) := by
    show _ = _
    try rw [HM.out]
    simp only [kidsB, kd_length, kd_drop, kd_take]
    rfl
  by_cases h2 : m = 1
  · have h2' : ((m : Int) == 1) = true := by simp [h2]
    have H2 := hidden h2
    clear h2
    go_enter Tryd.func31, Tryd.ntmps31
    go_wp2_with fail
    refine (exprs_lit _ _ _ _ _ 1 _ l ks _ (HN.out.below HB.out) (HK.out.below HB.out) HI.out HM.out hml hll (by omega) rfl).mono ?_
    rintro e w1 ⟨rfl, hw1⟩
    rw [hw1]; clear hw1 w1
    cases he : exprs (kd l ks) 1
    all_goals
      have HEX := hidden he
      clear he
      go_wp2_with fail
      go_ret
      exact ⟨by rw [HE.out, HEX.out, decide_eq_true H2.out]; rfl, HB.out⟩
  · have h2' : ((m : Int) == 1) = false := by simp; omega
    have H2 := hidden h2
    clear h2
    go_enter Tryd.func31, Tryd.ntmps31
    go_wp2_with fail
    go_ret
    exact ⟨by rw [HE.out, decide_eq_false H2.out]; rfl, HB.out⟩
set_option maxRecDepth 100000 in
set_option maxHeartbeats 2000000 in
theorem kids_11 (a : Option Addr) (c : Nat) (l : List Nd) (ka : Option Addr) (kc m : Nat) (ks : List Int) (n : Int) (s : ByteArray) (at_ : Int) (w : World) (hN : Nodes w a l) (hk : Rows' .i64 w ka m (fun j => ks.getD j 0)) (hcap : m ≤ kc) (hI : InL l ks) (hm : m = ks.length) (hml : m ≤ 140737488351232) (hll : l.length ≤ 9223372036854775807) :
    Calls Tryd.prog 31 #[.slice a l.length c, .agg #[.int .i64 11, .slice ka m kc, .int .i64 n, .string s, .int .i64 at_]] w fun e w' => e = .returned (.bool (kidsB 11 (kd l ks))) ∧ Below w.heap.size w w' := by
  have HM := hidden hm
  have HN := hidden hN
  have HK := hidden hk
  have HI := hidden hI
  clear hm hN hk hI
  have HB : Hid (Below w.heap.size w (w.alloc (.cells #[.int .i64 11, .slice ka m kc, .int .i64 n, .string s, .int .i64 at_] 36))) := (Below.refl _ _).alloc (Nat.le_refl _) _
  have HE : Hid (kidsB 11 (kd l ks) = (decide (m ≤ 8) && exprs (kd l ks) m)) := by
    show _ = _
    try rw [HM.out]
    simp only [kidsB, kd_length, kd_drop, kd_take]
    rfl
  by_cases h2 : m ≤ 8
  · have H2 := hidden h2
    go_enter Tryd.func31, Tryd.ntmps31
    go_wp2_with fail
    refine (exprs_lit _ _ _ _ _ m _ l ks _ (HN.out.below HB.out) (HK.out.below HB.out) HI.out HM.out hml hll (by omega) rfl).mono ?_
    rintro e w1 ⟨rfl, hw1⟩
    rw [hw1]; clear hw1 w1
    cases he : exprs (kd l ks) m
    all_goals
      have HEX := hidden he
      clear he
      go_wp2_with fail
      go_ret
      exact ⟨by rw [HE.out, HEX.out, decide_eq_true H2.out]; rfl, HB.out⟩
  · have H2 := hidden h2
    go_enter Tryd.func31, Tryd.ntmps31
    go_wp2_with fail
    go_ret
    exact ⟨by rw [HE.out, decide_eq_false H2.out]; rfl, HB.out⟩
set_option maxRecDepth 100000 in
set_option maxHeartbeats 2000000 in
theorem kids_15 (a : Option Addr) (c : Nat) (l : List Nd) (ka : Option Addr) (kc m : Nat) (ks : List Int) (n : Int) (s : ByteArray) (at_ : Int) (w : World) (hN : Nodes w a l) (hk : Rows' .i64 w ka m (fun j => ks.getD j 0)) (hcap : m ≤ kc) (hI : InL l ks) (hm : m = ks.length) (hml : m ≤ 140737488351232) (hll : l.length ≤ 9223372036854775807) :
    Calls Tryd.prog 31 #[.slice a l.length c, .agg #[.int .i64 15, .slice ka m kc, .int .i64 n, .string s, .int .i64 at_]] w fun e w' => e = .returned (.bool (kidsB 15 (kd l ks))) ∧ Below w.heap.size w w' := by
  have HM := hidden hm
  have HN := hidden hN
  have HK := hidden hk
  have HI := hidden hI
  clear hm hN hk hI
  have HB : Hid (Below w.heap.size w (w.alloc (.cells #[.int .i64 15, .slice ka m kc, .int .i64 n, .string s, .int .i64 at_] 36))) := (Below.refl _ _).alloc (Nat.le_refl _) _
  have HE : Hid (kidsB 15 (kd l ks) = (exprs (kd l ks) 1 && decide (2 ≤ m) && alls (kd l (ks.drop 1)) 23 2)) := by
    show _ = _
    try rw [HM.out]
    simp only [kidsB, kd_length, kd_drop, kd_take]
    rfl
  go_enter Tryd.func31, Tryd.ntmps31
  go_wp2_with fail
  refine (exprs_lit _ _ _ _ _ 1 _ l ks _ (HN.out.below HB.out) (HK.out.below HB.out) HI.out HM.out hml hll (by omega) rfl).mono ?_
  rintro e w1 ⟨rfl, hw1⟩
  rw [hw1]; clear hw1 w1
  cases he : exprs (kd l ks) 1 with
  | false =>
    have HEX := hidden he
    clear he
    go_wp2_with fail
    go_ret
    exact ⟨by rw [HE.out, HEX.out]; rfl, HB.out⟩
  | true =>
    have HEX := hidden he
    clear he
    by_cases h2 : 2 ≤ m
    · have H2 := hidden h2
      skip
      go_wp2_with fail
      refine (all_lit _ _ _ _ _ 2 _ _ l (ks.drop 1) _ (HN.out.below HB.out) (rows_drop (HK.out.below HB.out)) (HI.out.drop 1) (by rw [List.length_drop, ← HM.out]) (by omega) hll (by omega) rfl).mono ?_
      rintro e w1 ⟨rfl, hw1⟩
      rw [hw1]; clear hw1 w1
      cases he : alls (kd l (ks.drop 1)) 23 2
      all_goals
        have HAL := hidden he
        clear he
        go_wp2_with fail
        go_ret
        exact ⟨by rw [HE.out, HEX.out, decide_eq_true H2.out, HAL.out]; rfl, HB.out⟩
    · have H2 := hidden h2
      skip
      go_wp2_with fail
      go_ret
      exact ⟨by rw [HE.out, HEX.out, decide_eq_false H2.out]; rfl, HB.out⟩
set_option maxRecDepth 100000 in
set_option maxHeartbeats 2000000 in
theorem kids_16 (a : Option Addr) (c : Nat) (l : List Nd) (ka : Option Addr) (kc m : Nat) (ks : List Int) (n : Int) (s : ByteArray) (at_ : Int) (w : World) (hN : Nodes w a l) (hk : Rows' .i64 w ka m (fun j => ks.getD j 0)) (hcap : m ≤ kc) (hI : InL l ks) (hm : m = ks.length) (hml : m ≤ 140737488351232) (hll : l.length ≤ 9223372036854775807) :
    Calls Tryd.prog 31 #[.slice a l.length c, .agg #[.int .i64 16, .slice ka m kc, .int .i64 n, .string s, .int .i64 at_]] w fun e w' => e = .returned (.bool (kidsB 16 (kd l ks))) ∧ Below w.heap.size w w' := by
  have HM := hidden hm
  have HN := hidden hN
  have HK := hidden hk
  have HI := hidden hI
  clear hm hN hk hI
  have HB : Hid (Below w.heap.size w (w.alloc (.cells #[.int .i64 16, .slice ka m kc, .int .i64 n, .string s, .int .i64 at_] 36))) := (Below.refl _ _).alloc (Nat.le_refl _) _
  have HE : Hid (kidsB 16 (kd l ks) = (exprs (kd l ks) 1 && decide (m = 2) && alls (kd l (ks.drop 1)) 23 1)) := by
    show _ = _
    try rw [HM.out]
    simp only [kidsB, kd_length, kd_drop, kd_take]
    rfl
  go_enter Tryd.func31, Tryd.ntmps31
  go_wp2_with fail
  refine (exprs_lit _ _ _ _ _ 1 _ l ks _ (HN.out.below HB.out) (HK.out.below HB.out) HI.out HM.out hml hll (by omega) rfl).mono ?_
  rintro e w1 ⟨rfl, hw1⟩
  rw [hw1]; clear hw1 w1
  cases he : exprs (kd l ks) 1 with
  | false =>
    have HEX := hidden he
    clear he
    go_wp2_with fail
    go_ret
    exact ⟨by rw [HE.out, HEX.out]; rfl, HB.out⟩
  | true =>
    have HEX := hidden he
    clear he
    by_cases h2 : m = 2
    · have h2' : ((m : Int) == 2) = true := by simp [h2]
      have hge : 2 ≤ m := by omega
      have H2 := hidden h2
      clear h2
      go_wp2_with fail
      refine (all_lit _ _ _ _ _ 1 _ _ l (ks.drop 1) _ (HN.out.below HB.out) (rows_drop (HK.out.below HB.out)) (HI.out.drop 1) (by rw [List.length_drop, ← HM.out]) (by omega) hll (by omega) rfl).mono ?_
      rintro e w1 ⟨rfl, hw1⟩
      rw [hw1]; clear hw1 w1
      cases he : alls (kd l (ks.drop 1)) 23 1
      all_goals
        have HAL := hidden he
        clear he
        go_wp2_with fail
        go_ret
        exact ⟨by rw [HE.out, HEX.out, decide_eq_true H2.out, HAL.out]; rfl, HB.out⟩
    · have h2' : ((m : Int) == 2) = false := by simp; omega
      have H2 := hidden h2
      clear h2
      go_wp2_with fail
      go_ret
      exact ⟨by rw [HE.out, HEX.out, decide_eq_false H2.out]; rfl, HB.out⟩
set_option maxRecDepth 100000 in
set_option maxHeartbeats 2000000 in
theorem kids_17 (a : Option Addr) (c : Nat) (l : List Nd) (ka : Option Addr) (kc m : Nat) (ks : List Int) (n : Int) (s : ByteArray) (at_ : Int) (w : World) (hN : Nodes w a l) (hk : Rows' .i64 w ka m (fun j => ks.getD j 0)) (hcap : m ≤ kc) (hI : InL l ks) (hm : m = ks.length) (hml : m ≤ 140737488351232) (hll : l.length ≤ 9223372036854775807) :
    Calls Tryd.prog 31 #[.slice a l.length c, .agg #[.int .i64 17, .slice ka m kc, .int .i64 n, .string s, .int .i64 at_]] w fun e w' => e = .returned (.bool (kidsB 17 (kd l ks))) ∧ Below w.heap.size w w' := by
  have HM := hidden hm
  have HN := hidden hN
  have HK := hidden hk
  have HI := hidden hI
  clear hm hN hk hI
  have HB : Hid (Below w.heap.size w (w.alloc (.cells #[.int .i64 17, .slice ka m kc, .int .i64 n, .string s, .int .i64 at_] 36))) := (Below.refl _ _).alloc (Nat.le_refl _) _
  have HE : Hid (kidsB 17 (kd l ks) = (exprs (kd l ks) 2 && decide (m = 3) && alls (kd l (ks.drop 2)) 23 1)) := by
    show _ = _
    try rw [HM.out]
    simp only [kidsB, kd_length, kd_drop, kd_take]
    rfl
  go_enter Tryd.func31, Tryd.ntmps31
  go_wp2_with fail
  refine (exprs_lit _ _ _ _ _ 2 _ l ks _ (HN.out.below HB.out) (HK.out.below HB.out) HI.out HM.out hml hll (by omega) rfl).mono ?_
  rintro e w1 ⟨rfl, hw1⟩
  rw [hw1]; clear hw1 w1
  cases he : exprs (kd l ks) 2 with
  | false =>
    have HEX := hidden he
    clear he
    go_wp2_with fail
    go_ret
    exact ⟨by rw [HE.out, HEX.out]; rfl, HB.out⟩
  | true =>
    have HEX := hidden he
    clear he
    by_cases h2 : m = 3
    · have h2' : ((m : Int) == 3) = true := by simp [h2]
      have hge : 3 ≤ m := by omega
      have H2 := hidden h2
      clear h2
      go_wp2_with fail
      refine (all_lit _ _ _ _ _ 1 _ _ l (ks.drop 2) _ (HN.out.below HB.out) (rows_drop (HK.out.below HB.out)) (HI.out.drop 2) (by rw [List.length_drop, ← HM.out]) (by omega) hll (by omega) rfl).mono ?_
      rintro e w1 ⟨rfl, hw1⟩
      rw [hw1]; clear hw1 w1
      cases he : alls (kd l (ks.drop 2)) 23 1
      all_goals
        have HAL := hidden he
        clear he
        go_wp2_with fail
        go_ret
        exact ⟨by rw [HE.out, HEX.out, decide_eq_true H2.out, HAL.out]; rfl, HB.out⟩
    · have h2' : ((m : Int) == 3) = false := by simp; omega
      have H2 := hidden h2
      clear h2
      go_wp2_with fail
      go_ret
      exact ⟨by rw [HE.out, HEX.out, decide_eq_false H2.out]; rfl, HB.out⟩
end Go.Proofs.YtihcepkdihmjoaaDoor
