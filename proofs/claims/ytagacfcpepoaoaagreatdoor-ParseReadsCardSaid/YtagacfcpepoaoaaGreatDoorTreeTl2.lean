/- TreeTell, TreeTellsWalk, in one text. -/
import Derived.Test.YtagacfcpepoaoaaGreatDoorTreeTl1
import Derived.BigQuiet
namespace Go.Proofs.YtagacfcpepoaoaaGreatDoor
open Go.RowKit
set_option linter.unusedVariables false

theorem ne_of {t : List UInt8} (h : t ≠ []) : ne t = true := by unfold ne; simpa using h
theorem hd_ab {x : Nd} (hA : wordOf x ≠ []) (hB : x.t ≠ []) (hC : kwOf x = []) : hd x = wordOf x ++ [32] ++ x.t := by
  rw [hd_three]; unfold three; rw [hC]
  simp [List.filter, ne_of hA, ne_of hB, show ne [] = false from rfl, Lib.join_cons, Lib.joinTail]
theorem hd_a {x : Nd} (hB : x.t = []) (hC : kwOf x = []) : hd x = wordOf x := by
  rw [hd_three]; unfold three; rw [hC, hB]
  by_cases hA : wordOf x = []
  · rw [hA]; simp [List.filter, show ne [] = false from rfl, Lib.join_nil]
  · simp [List.filter, ne_of hA, show ne [] = false from rfl, Lib.join_one]
theorem hd_b {x : Nd} (hA : wordOf x = []) (hC : kwOf x = []) : hd x = x.t := by
  rw [hd_three]; unfold three; rw [hC, hA]
  by_cases hB : x.t = []
  · rw [hB]; simp [List.filter, show ne [] = false from rfl, Lib.join_nil]
  · simp [List.filter, ne_of hB, show ne [] = false from rfl, Lib.join_one]
theorem hd_bc {x : Nd} (hA : wordOf x = []) (hB : x.t ≠ []) (hC : kwOf x ≠ []) : hd x = x.t ++ [32] ++ kwOf x := by
  rw [hd_three]; unfold three; rw [hA]
  simp [List.filter, ne_of hB, ne_of hC, show ne [] = false from rfl, Lib.join_cons, Lib.joinTail]
theorem hd_abc {x : Nd} (hA : wordOf x ≠ []) (hB : x.t ≠ []) (hC : kwOf x ≠ []) : hd x = wordOf x ++ [32] ++ x.t ++ [32] ++ kwOf x := by
  rw [hd_three]; unfold three
  simp [List.filter, ne_of hA, ne_of hB, ne_of hC, Lib.join_cons, Lib.joinTail]
theorem own_t {x : Nd} (h : ownB x = true) : (named x.kind = true → x.t ≠ []) ∧ (named x.kind = false → x.t = []) := by
  unfold ownB at h
  simp only [Bool.and_eq_true] at h
  have h1 := h.1.2
  constructor
  · intro hn
    rw [if_pos hn] at h1
    unfold nameB at h1
    simp only [Bool.and_eq_true, decide_eq_true_eq] at h1
    intro e
    rw [e] at h1
    exact absurd h1.1.1.1.1 (by simp)
  · intro hn
    rw [hn] at h1
    simpa using h1
theorem own_n {x : Nd} (h : ownB x = true) : numB x.kind x.n = true := by
  unfold ownB at h
  simp only [Bool.and_eq_true] at h
  exact h.2
theorem sgn_ne : ∀ k : Fin 17, k.val ≠ 0 → tSigns.getD k.val [] ≠ [] := by decide +kernel
theorem words_ne : ∀ k : Fin 27, 6 ≤ k.val → k.val ≠ 24 → tWords.getD k.val [] ≠ [] := by decide +kernel
theorem kinds_ne : ∀ k : Fin 4, k.val ≠ 0 → tKinds.getD k.val [] ≠ [] := by decide +kernel
theorem own_5 {x : Nd} (h : ownB x = true) (hk : x.kind = 5) : 1 ≤ x.n ∧ x.n ≤ 16 := by
  have := own_n h
  unfold numB at this
  rw [hk] at this
  simpa using this
theorem own_24 {x : Nd} (h : ownB x = true) (hk : x.kind = 24 ∨ x.kind = 25) : 1 ≤ x.n ∧ x.n ≤ 3 := by
  have := own_n h
  unfold numB at this
  rcases hk with hk | hk <;> (rw [hk] at this; simpa using this)
theorem own_word {x : Nd} (h : ownB x = true) (h5 : 5 ≤ x.kind) (h26 : x.kind ≤ 26) (h24 : x.kind ≠ 24) : wordOf x ≠ [] := by
  unfold wordOf
  rw [if_neg (by omega), if_neg (by omega)]
  split
  · rename_i hk
    have := own_5 h hk
    obtain ⟨k, hk⟩ : ∃ k : Nat, x.n = k := ⟨x.n.toNat, by omega⟩
    rw [hk, sgnOf_in (by omega)]
    exact sgn_ne ⟨k, by omega⟩ (by show k ≠ 0; omega)
  · exact words_ne ⟨x.kind.toNat, by omega⟩ (by show 6 ≤ x.kind.toNat; omega) (by show x.kind.toNat ≠ 24; omega)
theorem own_kw {x : Nd} (h : ownB x = true) (hk : x.kind = 24 ∨ x.kind = 25) : kwOf x = kindW x.n ∧ kwOf x ≠ [] := by
  have h1 := own_24 h hk
  have e : kwOf x = kindW x.n := by unfold kwOf; rw [if_pos hk]
  refine ⟨e, ?_⟩
  rw [e]
  obtain ⟨k, hk⟩ : ∃ k : Nat, x.n = k := ⟨x.n.toNat, by omega⟩
  rw [hk, kindW_in (by omega)]
  exact kinds_ne ⟨k, by omega⟩ (by show k ≠ 0; omega)
theorem kw_none {x : Nd} (h1 : x.kind ≠ 24) (h2 : x.kind ≠ 25) : kwOf x = [] := by
  unfold kwOf
  rw [if_neg (by omega)]
theorem txt_of {X : ByteArray} {b : List UInt8} (h : X.data.toList = b) : Value.string X = txt b := by rw [string_of, h]
/-- the text behind the first j kids, without the bracket ahead -/
def rs (l : List Nd) (i j : Nat) : List UInt8 := hd (nd l i) ++ ((nd l i).kids.take j).flatMap (fun k => 32 :: tx l k.toNat)
theorem rs_tpre (l : List Nd) (i j : Nat) : tpre l i j = 40 :: rs l i j := by unfold tpre rs; simp
theorem rs_zero (l : List Nd) (i : Nat) : rs l i 0 = hd (nd l i) := by unfold rs; simp
theorem rs_next {l : List Nd} {i j q : Nat} (hj : j < (nd l i).kids.length) (hq : (nd l i).kids.getD j 0 = (q : Int)) : rs l i (j + 1) = rs l i j ++ [32] ++ tx l q := by
  have h := tpre_next hj hq
  rw [rs_tpre, rs_tpre] at h
  simpa using h
theorem rs_full {l : List Nd} (hA : Ahead l) {i : Nat} (hi : i < l.length) (hk : ¬ (nd l i).kind ≤ 4) : tx l i = [40] ++ rs l i (nd l i).kids.length ++ [41] := by
  rw [tx_high hA hi hk, rs_tpre]; rfl
theorem rs_le {l : List Nd} (hA : Ahead l) {i j : Nat} (hi : i < l.length) (hk : ¬ (nd l i).kind ≤ 4) (hj : j ≤ (nd l i).kids.length) : (rs l i j).length + 2 ≤ (tx l i).length := by
  have := tpre_le hA hi hk hj
  rw [rs_tpre] at this
  simpa using this
theorem data_size (T : ByteArray) : T.size = T.data.toList.length := (length_of T).symm
set_option maxRecDepth 100000 in
set_option maxHeartbeats 20000000 in
theorem tell_any (a : Option Addr) (c n : Nat) (l : List Nd) (hn : n = l.length) (hR : Rt l) (hll : n ≤ 100000) : ∀ (N i : Nat), i < N → i < l.length → ∀ (w : World), Nodes w a l →
    Calls Tryz.prog 9 #[.slice a n c, .int .i64 (i : Int)] w fun e w' => e = .returned (txt (tx l i)) ∧ Below w.heap.size w w' := by
  intro N
  induction N with
  | zero => intro i h; omega
  | succ N ih =>
    intro i hiN hil w hN
    have HNL := hidden hn
    have HR := hidden hR
    have HA : Hid (Ahead l) := hR.1.2.1
    have HN := hidden hN
    have IH := hidden ih
    have HIL := hidden hil
    have hin : (i : Int) < (n : Int) := by omega
    have HOWN := hidden (own_of hR.2.1 hil)
    have HTS : Hid (∀ j, j < l.length → (tx l j).length ≤ 6400000) := fun j hj => by
      have h1 := tx_short hR.1 hR.2.1 (fun j hj => (hN.2 j hj).n1) hj
      omega
    obtain ⟨lb, lo, ha, hlb, h5⟩ := hN.at_ hil
    have HOK := hidden (hN.2 i hil)
    have hkind := kind_of hR.2.1 hil
    obtain ⟨x, hx⟩ : ∃ x, x = nd l i := ⟨_, rfl⟩
    rw [← hx] at h5 HOK HOWN hkind
    have HX := hidden hx
    clear hx hn hR hN ih hil
    subst ha
    obtain ⟨c0, c1, c2, c3, c4⟩ := h5
    rw [string_of x.s] at c3
    replace c3 : w.cell? ⟨lb, lo + i * 5 + 3, none⟩ = some (txt x.t) := c3
    unfold txt at c3
    have HKR := hidden HOK.out.rows
    have hkl := HOK.out.len
    have hn1 := HOK.out.n1
    have hnl := name_len HOWN.out
    have HV : Hid (x.v = .agg #[.int .i64 x.kind, .slice x.ka x.kids.length x.kc, .int .i64 x.n, .string ⟨x.t.toArray⟩, .int .i64 x.at_]) := by
      show Value.agg #[_, _, _, Value.string x.s, _] = _
      rw [string_of x.s]; rfl
    have hword : ∀ w', 3 ≤ x.kind → Calls Tryz.prog 29 #[x.v] w' fun e w2 => e = .returned (txt (wordOf x)) ∧ Below w'.heap.size w' w2 := fun w' h3 => rwd_any x w' h3 hkind.2 (own_5 HOWN.out)
    rw [HV.out] at hword
    have HT1 := hidden (own_t HOWN.out)
    have HWL := hidden (wordOf_len x HOK.out.n0 HOK.out.n1)
    obtain ⟨K, hK⟩ : ∃ K, K = x.kind := ⟨_, rfl⟩
    obtain ⟨ka, hka⟩ : ∃ ka, ka = x.ka := ⟨_, rfl⟩
    obtain ⟨kc, hkc⟩ : ∃ kc, kc = x.kc := ⟨_, rfl⟩
    obtain ⟨ks, hks⟩ : ∃ ks, ks = x.kids := ⟨_, rfl⟩
    obtain ⟨m, hm⟩ : ∃ m, m = ks.length := ⟨_, rfl⟩
    obtain ⟨nn, hnn⟩ : ∃ nn, nn = x.n := ⟨_, rfl⟩
    obtain ⟨B, hB⟩ : ∃ B, B = x.t := ⟨_, rfl⟩
    obtain ⟨at_, hat⟩ : ∃ at_, at_ = x.at_ := ⟨_, rfl⟩
    rw [← hK] at c0 hword hkind
    rw [← hka, ← hks, ← hkc, ← hm] at c1 hword
    rw [← hnn] at c2 hword hn1
    rw [← hB] at c3 hword hnl HT1
    rw [← hat] at c4 hword
    rw [← hks, ← hm] at hkl
    rw [← hka, ← hks, ← hm] at HKR
    have HWORD := hidden hword
    have HK := hidden hK
    have HKS : Hid (ks = (nd l i).kids) := by show _ = _; rw [hks, HX.out]
    have HM := hidden hm
    have HNN := hidden hnn
    have HBB := hidden hB
    clear hword hK hka hkc hks hm hnn hB hat HV
    obtain ⟨w1, hw1⟩ : ∃ w1, w1 = w.alloc (.cells #[.int .i64 K, .slice ka m kc, .int .i64 nn, .string ⟨B.toArray⟩, .int .i64 at_] 59) := ⟨_, rfl⟩
    have HB1 : Hid (Below w.heap.size w w1) := by rw [hw1]; exact (Below.refl _ _).alloc (Nat.le_refl _) _
    have HH : Hid (Held w1 w.heap.size 59 #[.int .i64 K, .slice ka m kc, .int .i64 nn, .string ⟨B.toArray⟩, .int .i64 at_]) := by rw [hw1]; exact Held.new w _ _
    have HXK : Hid ((nd l i).kind = K) := by show _ = _; rw [← HX.out, HK.out]
    by_cases h4 : K ≤ 4
    · have HTX : Hid (tx l i = hd x) := by
        show _ = _
        rw [tx_low HA.out HIL.out (by rw [HXK.out]; exact h4), HX.out]
      rw [HTX.out]
      have HKW := hidden (kw_none (x := x) (by rw [← HK.out]; omega) (by rw [← HK.out]; omega))
      by_cases k1 : K = 1
      · subst k1
        have HHD : Hid (hd x = Lib.itoa nn) := by
          show _ = _
          rw [hd_a (by rw [← HBB.out]; exact HT1.out.2 (by rw [← HK.out]; rfl)) HKW.out]
          unfold wordOf
          rw [if_pos HK.out.symm, ← HNN.out]
        have hn0 : 0 ≤ nn := by
          have := own_n HOWN.out
          unfold numB at this
          rw [if_pos HK.out.symm, ← HNN.out] at this
          simpa using this
        obtain ⟨u, rfl⟩ : ∃ u : Nat, nn = u := ⟨nn.toNat, by omega⟩
        rw [HHD.out]
        go_enter Tryz.func9, Tryz.ntmps9
        go_wp2_with fail
        rw [← hw1]
        refine (ritoa_any u w1 (by omega)).mono ?_
        rintro e w2 ⟨rfl, hb2⟩
        have HB2 : Hid (Below w.heap.size w w2) := HB1.out.trans (hb2.mono HB1.out.size)
        clear hb2
        go_wp2_with fail
        go_ret
        exact ⟨rfl, HB2.out⟩
      by_cases k2 : K = 2
      · subst k2
        have HHD : Hid (hd x = Lib.formatBool (nn == 1)) := by
          show _ = _
          rw [hd_a (by rw [← HBB.out]; exact HT1.out.2 (by rw [← HK.out]; rfl)) HKW.out]
          unfold wordOf
          rw [if_neg (by rw [← HK.out]; omega), if_pos HK.out.symm, ← HNN.out]
        have hn0 : nn = 0 ∨ nn = 1 := by
          have := own_n HOWN.out
          unfold numB at this
          rw [if_neg (by rw [← HK.out]; omega), if_pos HK.out.symm, ← HNN.out] at this
          simpa using this
        rw [HHD.out]
        rcases hn0 with rfl | rfl
        · go_enter Tryz.func9, Tryz.ntmps9
          go_wp2_with fail
          go_ret
          refine ⟨rfl, ?_⟩
          first | exact HB1.out | (rw [← hw1]; exact HB1.out)
        · go_enter Tryz.func9, Tryz.ntmps9
          go_wp2_with fail
          go_ret
          refine ⟨rfl, ?_⟩
          first | exact HB1.out | (rw [← hw1]; exact HB1.out)
      · have hK3 : 3 ≤ K := by omega
        have HHD : Hid (hd x = wordOf x ++ B) := by
          show _ = _
          rcases (show K = 3 ∨ K = 4 by omega) with h | h
          · have hb : B = [] := HT1.out.2 (by rw [← HK.out, h]; rfl)
            rw [hd_a (by rw [← HBB.out]; exact hb) HKW.out, hb, List.append_nil]
          · have ha : wordOf x = [] := by
              unfold wordOf
              rw [← HK.out, h]
              rfl
            rw [hd_b ha HKW.out, ha, HBB.out]
            rfl
        rw [HHD.out]
        have hwl := HWL.out
        obtain ⟨A, hA⟩ : ∃ A, A = wordOf x := ⟨_, rfl⟩
        have hwd : ∀ d os, Calls Tryz.prog 29 #[.agg #[.int .i64 K, .slice ka m kc, .int .i64 nn, .string ⟨B.toArray⟩, .int .i64 at_]] (Sort.grow (redrawn w1 d) os) fun e w'' => e = .returned (txt A) ∧ ∃ q : Regrown, w'' = Sort.grow (redrawn w1 q.d) q.os := fun d os => Calls.regrown_of (by rw [hA]; exact HWORD.out _ hK3)
        rw [← hA] at hwl ⊢
        clear hA
        unfold txt at hwd
        have e1 : (K == 1) = false := by simpa using k1
        have e2 : (K == 2) = false := by simpa using k2
        clear k1 k2
        go_enter Tryz.func9, Tryz.ntmps9
        go_wp2_with fail
        rw [← hw1]
        obtain ⟨g, hg⟩ : ∃ g, g = w.heap.size := ⟨_, rfl⟩
        rw [← hg] at HH ⊢
        clear hw1 hg
        have k0 := cell_regrown (HH.out.at_ (j := 0) rfl)
        have k1 := cell_regrown (HH.out.at_ (j := 1) rfl)
        have k2 := cell_regrown (HH.out.at_ (j := 2) rfl)
        have k3 := cell_regrown (HH.out.at_ (j := 3) rfl)
        have k4 := cell_regrown (HH.out.at_ (j := 4) rfl)
        refine wp_region_quiet_below (by kernel_rfl) (by kernel_rfl) ?_
        repeat (any_goals (first | go_big_quiet_step (exact hwd _ _) | quiet_step (exact hwd _ _)))
        refine wpQuiet_nil ?_
        intro _ hw'
        obtain ⟨⟨dq, osq⟩, hw''⟩ := hw'
        obtain ⟨w2, hw2⟩ : ∃ w2, w2 = Sort.grow (redrawn w1 dq) osq := ⟨_, rfl⟩
        have HB2 : Hid (Below w.heap.size w w2) := by rw [hw2]; exact HB1.out.trans ((below_regrown w1 dq osq).mono HB1.out.size)
        rw [hw'', ← hw2]
        clear hw2 hw'' k0 k1 k2 k3 k4 hwd HH
        go_wp2_with fail
        go_ret
        exact ⟨congrArg Ending.returned (txt_of (by simp)), HB2.out⟩
    · have h5 : 5 ≤ K := by omega
      have HLE := hidden (fun (j : Nat) (hj : j ≤ (nd l i).kids.length) => rs_le HA.out (j := j) HIL.out (by rw [HXK.out]; exact h4) hj)
      have HFULL := hidden (rs_full HA.out HIL.out (by rw [HXK.out]; exact h4))
      have HZ := hidden (rs_zero l i)
      have htl := HTS.out i HIL.out
      have e1 : (K == 1) = false := by simp; omega
      have e2 : (K == 2) = false := by simp; omega
      have hwl := HWL.out
      rcases (show (K ≠ 24 ∧ K ≠ 25 ∧ B = []) ∨ (K ≠ 24 ∧ K ≠ 25 ∧ B ≠ []) ∨ K = 24 ∨ K = 25 by
        by_cases a : K = 24 <;> by_cases b : K = 25 <;> by_cases c : B = [] <;> simp [a, b, c]) with ⟨g1, g2, g3⟩ | ⟨g1, g2, g3⟩ | g1 | g1
      · have HAN := hidden (own_word HOWN.out (by rw [← HK.out]; omega) (by rw [← HK.out]; omega) (by rw [← HK.out]; exact g1))
        have HHD := hidden (hd_a (x := x) (by rw [← HBB.out]; exact g3) (kw_none (by rw [← HK.out]; exact g1) (by rw [← HK.out]; exact g2)))
        have e24 : (K == 24) = false := by simpa using g1
        have e25 : (K == 25) = false := by simpa using g2
        clear g1 g2
        subst g3
        go_enter Tryz.func9, Tryz.ntmps9
        go_wp2_with fail
        rw [← hw1]
        refine (HWORD.out w1 (by omega)).mono ?_
        rintro e w2 ⟨rfl, hb2⟩
        have HB2 : Hid (Below w.heap.size w w2) := HB1.out.trans (hb2.mono HB1.out.size)
        have HH2 := hidden (HH.out.since hb2)
        obtain ⟨g, hg⟩ : ∃ g, g = w.heap.size := ⟨_, rfl⟩
        rw [← hg] at HH2 ⊢
        clear hb2 hw1 hg
        have k0 := HH2.out.at_ (j := 0) rfl
        have k1 := HH2.out.at_ (j := 1) rfl
        have k2 := HH2.out.at_ (j := 2) rfl
        have k3 := HH2.out.at_ (j := 3) rfl
        obtain ⟨A, hA⟩ : ∃ A, A = wordOf x := ⟨_, rfl⟩
        rw [← hA] at HAN HHD hwl ⊢
        clear hA
        have hae : A.isEmpty = false := by rw [List.isEmpty_eq_false_iff]; exact HAN.out
        have hta : (⟨A.toArray⟩ : ByteArray).toList = A := toList_mk A
        unfold txt
        go_wp2_with fail
        have HBn := HB2
        have HHn := HH2
        clear k0 k1 k2 k3
        go_loopw [6, 7] (fun t6 t7 wr => ∃ (j : Nat) (T : ByteArray), j ≤ m ∧ t7 = .int .i64 (j : Int) ∧ t6 = .string T ∧ T.size ≤ 6400000 ∧ Hid (T.data.toList = rs l i j) ∧ Hid (Below w.heap.size w wr) ∧ Hid (Held wr g 59 _)) (fun _ t7 _ => m - (intOf t7).toNat)
        case atStart =>
          have hh : Hid (hd (nd l i) = hd x) := by show _ = _; rw [HX.out]
          refine ⟨0, _, by omega, rfl, rfl, ?_, ?_, HBn, HHn⟩
          · rw [data_size]
            have h1 := HLE.out 0 (by omega)
            rw [HZ.out, hh.out, HHD.out] at h1
            try rw [← HBB.out] at h1
            simp at h1 ⊢
            omega
          · show _ = _
            rw [HZ.out, hh.out, HHD.out]
            try rw [← HBB.out]
            simp
        case round =>
          obtain ⟨j, T, hj, rfl, rfl, hT, HT, HBj, HHj⟩ := hrel
          have k1 := HHj.out.at_ (j := 1) rfl
          by_cases hjm : j < m
          · have hjmi : (j : Int) < (m : Int) := by omega
            have hjk : Hid (j < (nd l i).kids.length) := by show j < _; rw [← HKS.out, ← HM.out]; exact hjm
            obtain ⟨q, hq, hqi, _⟩ := kid_q HA.out HIL.out hjk.out
            obtain ⟨kb, ko, rfl, hkb, hkc⟩ := (HKR.out.below HBj.out) (by omega)
            have hc := hkc j hjm
            simp only at hc
            rw [HKS.out, hq] at hc
            have HNX := hidden (rs_next hjk.out hq)
            have hqt := HTS.out q (by have := HIL.out; omega)
            clear hkc hq
            go_wp2_with fail
            refine (IH.out q (by omega) (by have := HIL.out; omega) wr (HN.out.below HBj.out)).mono ?_
            rintro e w4 ⟨rfl, hb4⟩
            have HB4 : Hid (Below w.heap.size w w4) := HBj.out.trans (hb4.mono HBj.out.size)
            have HH4 := hidden (HHj.out.since hb4)
            obtain ⟨Y, hY⟩ : ∃ Y, Y = tx l q := ⟨_, rfl⟩
            rw [← hY] at HNX hqt ⊢
            clear hb4 hY
            unfold txt
            go_wp2_with fail
            go_roundw
            case rel =>
              refine ⟨j + 1, _, by omega, by go_num, rfl, ?_, ?_, HB4, HH4⟩
              · rw [data_size]
                have h1 := HLE.out (j + 1) (by have := hjk.out; omega)
                rw [HNX.out, ← HT.out] at h1
                simp at h1 ⊢
                omega
              · show _ = _
                rw [HNX.out, ← HT.out]
                simp
            case measure => simp [intOf]; omega
          · obtain ⟨ej⟩ : Nonempty (j = m) := ⟨by omega⟩
            have HEJ : Hid (j = (nd l i).kids.length) := by show _ = _; rw [ej, HM.out, HKS.out]
            clear ej
            go_wp2_with fail
            go_ret
            refine ⟨congrArg Ending.returned (txt_of ?_), HBj.out⟩
            rw [HFULL.out, ← HEJ.out, ← HT.out]
            simp
      · have HAN := hidden (own_word HOWN.out (by rw [← HK.out]; omega) (by rw [← HK.out]; omega) (by rw [← HK.out]; exact g1))
        have HHD := hidden (hd_ab (x := x) HAN.out (by rw [← HBB.out]; exact g3) (kw_none (by rw [← HK.out]; exact g1) (by rw [← HK.out]; exact g2)))
        have e24 : (K == 24) = false := by simpa using g1
        have e25 : (K == 25) = false := by simpa using g2
        clear g1 g2
        have hbe : B.isEmpty = false := by rw [List.isEmpty_eq_false_iff]; exact g3
        have htb : (⟨B.toArray⟩ : ByteArray).toList = B := toList_mk B
        go_enter Tryz.func9, Tryz.ntmps9
        go_wp2_with fail
        rw [← hw1]
        refine (HWORD.out w1 (by omega)).mono ?_
        rintro e w2 ⟨rfl, hb2⟩
        have HB2 : Hid (Below w.heap.size w w2) := HB1.out.trans (hb2.mono HB1.out.size)
        have HH2 := hidden (HH.out.since hb2)
        obtain ⟨g, hg⟩ : ∃ g, g = w.heap.size := ⟨_, rfl⟩
        rw [← hg] at HH2 ⊢
        clear hb2 hw1 hg
        have k0 := HH2.out.at_ (j := 0) rfl
        have k1 := HH2.out.at_ (j := 1) rfl
        have k2 := HH2.out.at_ (j := 2) rfl
        have k3 := HH2.out.at_ (j := 3) rfl
        obtain ⟨A, hA⟩ : ∃ A, A = wordOf x := ⟨_, rfl⟩
        rw [← hA] at HAN HHD hwl ⊢
        clear hA
        have hae : A.isEmpty = false := by rw [List.isEmpty_eq_false_iff]; exact HAN.out
        have hta : (⟨A.toArray⟩ : ByteArray).toList = A := toList_mk A
        unfold txt
        go_wp2_with fail
        have HBn := HB2
        have HHn := HH2
        clear k0 k1 k2 k3
        go_loopw [6, 7] (fun t6 t7 wr => ∃ (j : Nat) (T : ByteArray), j ≤ m ∧ t7 = .int .i64 (j : Int) ∧ t6 = .string T ∧ T.size ≤ 6400000 ∧ Hid (T.data.toList = rs l i j) ∧ Hid (Below w.heap.size w wr) ∧ Hid (Held wr g 59 _)) (fun _ t7 _ => m - (intOf t7).toNat)
        case atStart =>
          have hh : Hid (hd (nd l i) = hd x) := by show _ = _; rw [HX.out]
          refine ⟨0, _, by omega, rfl, rfl, ?_, ?_, HBn, HHn⟩
          · rw [data_size]
            have h1 := HLE.out 0 (by omega)
            rw [HZ.out, hh.out, HHD.out] at h1
            try rw [← HBB.out] at h1
            simp at h1 ⊢
            omega
          · show _ = _
            rw [HZ.out, hh.out, HHD.out]
            try rw [← HBB.out]
            simp
        case round =>
          obtain ⟨j, T, hj, rfl, rfl, hT, HT, HBj, HHj⟩ := hrel
          have k1 := HHj.out.at_ (j := 1) rfl
          by_cases hjm : j < m
          · have hjmi : (j : Int) < (m : Int) := by omega
            have hjk : Hid (j < (nd l i).kids.length) := by show j < _; rw [← HKS.out, ← HM.out]; exact hjm
            obtain ⟨q, hq, hqi, _⟩ := kid_q HA.out HIL.out hjk.out
            obtain ⟨kb, ko, rfl, hkb, hkc⟩ := (HKR.out.below HBj.out) (by omega)
            have hc := hkc j hjm
            simp only at hc
            rw [HKS.out, hq] at hc
            have HNX := hidden (rs_next hjk.out hq)
            have hqt := HTS.out q (by have := HIL.out; omega)
            clear hkc hq
            go_wp2_with fail
            refine (IH.out q (by omega) (by have := HIL.out; omega) wr (HN.out.below HBj.out)).mono ?_
            rintro e w4 ⟨rfl, hb4⟩
            have HB4 : Hid (Below w.heap.size w w4) := HBj.out.trans (hb4.mono HBj.out.size)
            have HH4 := hidden (HHj.out.since hb4)
            obtain ⟨Y, hY⟩ : ∃ Y, Y = tx l q := ⟨_, rfl⟩
            rw [← hY] at HNX hqt ⊢
            clear hb4 hY
            unfold txt
            go_wp2_with fail
            go_roundw
            case rel =>
              refine ⟨j + 1, _, by omega, by go_num, rfl, ?_, ?_, HB4, HH4⟩
              · rw [data_size]
                have h1 := HLE.out (j + 1) (by have := hjk.out; omega)
                rw [HNX.out, ← HT.out] at h1
                simp at h1 ⊢
                omega
              · show _ = _
                rw [HNX.out, ← HT.out]
                simp
            case measure => simp [intOf]; omega
          · obtain ⟨ej⟩ : Nonempty (j = m) := ⟨by omega⟩
            have HEJ : Hid (j = (nd l i).kids.length) := by show _ = _; rw [ej, HM.out, HKS.out]
            clear ej
            go_wp2_with fail
            go_ret
            refine ⟨congrArg Ending.returned (txt_of ?_), HBj.out⟩
            rw [HFULL.out, ← HEJ.out, ← HT.out]
            simp
      · subst g1
        have HAN : Hid (wordOf x = []) := by
          show _ = _
          unfold wordOf
          rw [← HK.out]
          rfl
        have HKW := hidden (own_kw HOWN.out (.inl HK.out.symm))
        have hbn : B ≠ [] := HT1.out.1 (by rw [← HK.out]; rfl)
        have HHD := hidden (hd_bc HAN.out (by rw [← HBB.out]; exact hbn) HKW.out.2)
        have hbe : B.isEmpty = false := by rw [List.isEmpty_eq_false_iff]; exact hbn
        have htb : (⟨B.toArray⟩ : ByteArray).toList = B := toList_mk B
        go_enter Tryz.func9, Tryz.ntmps9
        go_wp2_with fail
        rw [← hw1]
        refine (HWORD.out w1 (by omega)).mono ?_
        rintro e w2 ⟨rfl, hb2⟩
        have HB2 : Hid (Below w.heap.size w w2) := HB1.out.trans (hb2.mono HB1.out.size)
        have HH2 := hidden (HH.out.since hb2)
        obtain ⟨g, hg⟩ : ∃ g, g = w.heap.size := ⟨_, rfl⟩
        rw [← hg] at HH2 ⊢
        clear hb2 hw1 hg
        have k0 := HH2.out.at_ (j := 0) rfl
        have k1 := HH2.out.at_ (j := 1) rfl
        have k2 := HH2.out.at_ (j := 2) rfl
        have k3 := HH2.out.at_ (j := 3) rfl
        rw [HAN.out]
        unfold txt
        go_wp2_with fail
        refine (rkind_any nn w2).mono ?_
        rintro e w3 ⟨rfl, hb3⟩
        have HB3 : Hid (Below w.heap.size w w3) := HB2.out.trans (hb3.mono HB2.out.size)
        have HH3 := hidden (HH2.out.since hb3)
        have hkw : (kindW nn).length ≤ 4 := by have := kwOf_len x; rw [HKW.out.1, ← HNN.out] at this; exact this
        rw [HKW.out.1, ← HNN.out] at HHD
        obtain ⟨C, hC⟩ : ∃ C, C = kindW nn := ⟨_, rfl⟩
        rw [← hC] at HHD hkw ⊢
        clear hC hb3 k0 k1 k2 k3
        have k1 := HH3.out.at_ (j := 1) rfl
        unfold txt
        go_wp2_with fail
        have HBn := HB3
        have HHn := HH3
        clear k1
        go_loopw [6, 7] (fun t6 t7 wr => ∃ (j : Nat) (T : ByteArray), j ≤ m ∧ t7 = .int .i64 (j : Int) ∧ t6 = .string T ∧ T.size ≤ 6400000 ∧ Hid (T.data.toList = rs l i j) ∧ Hid (Below w.heap.size w wr) ∧ Hid (Held wr g 59 _)) (fun _ t7 _ => m - (intOf t7).toNat)
        case atStart =>
          have hh : Hid (hd (nd l i) = hd x) := by show _ = _; rw [HX.out]
          refine ⟨0, _, by omega, rfl, rfl, ?_, ?_, HBn, HHn⟩
          · rw [data_size]
            have h1 := HLE.out 0 (by omega)
            rw [HZ.out, hh.out, HHD.out] at h1
            try rw [← HBB.out] at h1
            simp at h1 ⊢
            omega
          · show _ = _
            rw [HZ.out, hh.out, HHD.out]
            try rw [← HBB.out]
            simp
        case round =>
          obtain ⟨j, T, hj, rfl, rfl, hT, HT, HBj, HHj⟩ := hrel
          have k1 := HHj.out.at_ (j := 1) rfl
          by_cases hjm : j < m
          · have hjmi : (j : Int) < (m : Int) := by omega
            have hjk : Hid (j < (nd l i).kids.length) := by show j < _; rw [← HKS.out, ← HM.out]; exact hjm
            obtain ⟨q, hq, hqi, _⟩ := kid_q HA.out HIL.out hjk.out
            obtain ⟨kb, ko, rfl, hkb, hkc⟩ := (HKR.out.below HBj.out) (by omega)
            have hc := hkc j hjm
            simp only at hc
            rw [HKS.out, hq] at hc
            have HNX := hidden (rs_next hjk.out hq)
            have hqt := HTS.out q (by have := HIL.out; omega)
            clear hkc hq
            go_wp2_with fail
            refine (IH.out q (by omega) (by have := HIL.out; omega) wr (HN.out.below HBj.out)).mono ?_
            rintro e w4 ⟨rfl, hb4⟩
            have HB4 : Hid (Below w.heap.size w w4) := HBj.out.trans (hb4.mono HBj.out.size)
            have HH4 := hidden (HHj.out.since hb4)
            obtain ⟨Y, hY⟩ : ∃ Y, Y = tx l q := ⟨_, rfl⟩
            rw [← hY] at HNX hqt ⊢
            clear hb4 hY
            unfold txt
            go_wp2_with fail
            go_roundw
            case rel =>
              refine ⟨j + 1, _, by omega, by go_num, rfl, ?_, ?_, HB4, HH4⟩
              · rw [data_size]
                have h1 := HLE.out (j + 1) (by have := hjk.out; omega)
                rw [HNX.out, ← HT.out] at h1
                simp at h1 ⊢
                omega
              · show _ = _
                rw [HNX.out, ← HT.out]
                simp
            case measure => simp [intOf]; omega
          · obtain ⟨ej⟩ : Nonempty (j = m) := ⟨by omega⟩
            have HEJ : Hid (j = (nd l i).kids.length) := by show _ = _; rw [ej, HM.out, HKS.out]
            clear ej
            go_wp2_with fail
            go_ret
            refine ⟨congrArg Ending.returned (txt_of ?_), HBj.out⟩
            rw [HFULL.out, ← HEJ.out, ← HT.out]
            simp
      · subst g1
        have HAN := hidden (own_word HOWN.out (by rw [← HK.out]; omega) (by rw [← HK.out]; omega) (by rw [← HK.out]; omega))
        have HKW := hidden (own_kw HOWN.out (.inr HK.out.symm))
        have hbn : B ≠ [] := HT1.out.1 (by rw [← HK.out]; rfl)
        have HHD := hidden (hd_abc HAN.out (by rw [← HBB.out]; exact hbn) HKW.out.2)
        have hbe : B.isEmpty = false := by rw [List.isEmpty_eq_false_iff]; exact hbn
        have htb : (⟨B.toArray⟩ : ByteArray).toList = B := toList_mk B
        go_enter Tryz.func9, Tryz.ntmps9
        go_wp2_with fail
        rw [← hw1]
        refine (HWORD.out w1 (by omega)).mono ?_
        rintro e w2 ⟨rfl, hb2⟩
        have HB2 : Hid (Below w.heap.size w w2) := HB1.out.trans (hb2.mono HB1.out.size)
        have HH2 := hidden (HH.out.since hb2)
        obtain ⟨g, hg⟩ : ∃ g, g = w.heap.size := ⟨_, rfl⟩
        rw [← hg] at HH2 ⊢
        clear hb2 hw1 hg
        have k0 := HH2.out.at_ (j := 0) rfl
        have k1 := HH2.out.at_ (j := 1) rfl
        have k2 := HH2.out.at_ (j := 2) rfl
        have k3 := HH2.out.at_ (j := 3) rfl
        obtain ⟨A, hA⟩ : ∃ A, A = wordOf x := ⟨_, rfl⟩
        rw [← hA] at HAN HHD hwl ⊢
        clear hA
        have hae : A.isEmpty = false := by rw [List.isEmpty_eq_false_iff]; exact HAN.out
        have hta : (⟨A.toArray⟩ : ByteArray).toList = A := toList_mk A
        unfold txt
        go_wp2_with fail
        refine (rkind_any nn w2).mono ?_
        rintro e w3 ⟨rfl, hb3⟩
        have HB3 : Hid (Below w.heap.size w w3) := HB2.out.trans (hb3.mono HB2.out.size)
        have HH3 := hidden (HH2.out.since hb3)
        have hkw : (kindW nn).length ≤ 4 := by have := kwOf_len x; rw [HKW.out.1, ← HNN.out] at this; exact this
        rw [HKW.out.1, ← HNN.out] at HHD
        obtain ⟨C, hC⟩ : ∃ C, C = kindW nn := ⟨_, rfl⟩
        rw [← hC] at HHD hkw ⊢
        clear hC hb3 k0 k1 k2 k3
        have k1 := HH3.out.at_ (j := 1) rfl
        unfold txt
        go_wp2_with fail
        have HBn := HB3
        have HHn := HH3
        clear k1
        go_loopw [6, 7] (fun t6 t7 wr => ∃ (j : Nat) (T : ByteArray), j ≤ m ∧ t7 = .int .i64 (j : Int) ∧ t6 = .string T ∧ T.size ≤ 6400000 ∧ Hid (T.data.toList = rs l i j) ∧ Hid (Below w.heap.size w wr) ∧ Hid (Held wr g 59 _)) (fun _ t7 _ => m - (intOf t7).toNat)
        case atStart =>
          have hh : Hid (hd (nd l i) = hd x) := by show _ = _; rw [HX.out]
          refine ⟨0, _, by omega, rfl, rfl, ?_, ?_, HBn, HHn⟩
          · rw [data_size]
            have h1 := HLE.out 0 (by omega)
            rw [HZ.out, hh.out, HHD.out] at h1
            try rw [← HBB.out] at h1
            simp at h1 ⊢
            omega
          · show _ = _
            rw [HZ.out, hh.out, HHD.out]
            try rw [← HBB.out]
            simp
        case round =>
          obtain ⟨j, T, hj, rfl, rfl, hT, HT, HBj, HHj⟩ := hrel
          have k1 := HHj.out.at_ (j := 1) rfl
          by_cases hjm : j < m
          · have hjmi : (j : Int) < (m : Int) := by omega
            have hjk : Hid (j < (nd l i).kids.length) := by show j < _; rw [← HKS.out, ← HM.out]; exact hjm
            obtain ⟨q, hq, hqi, _⟩ := kid_q HA.out HIL.out hjk.out
            obtain ⟨kb, ko, rfl, hkb, hkc⟩ := (HKR.out.below HBj.out) (by omega)
            have hc := hkc j hjm
            simp only at hc
            rw [HKS.out, hq] at hc
            have HNX := hidden (rs_next hjk.out hq)
            have hqt := HTS.out q (by have := HIL.out; omega)
            clear hkc hq
            go_wp2_with fail
            refine (IH.out q (by omega) (by have := HIL.out; omega) wr (HN.out.below HBj.out)).mono ?_
            rintro e w4 ⟨rfl, hb4⟩
            have HB4 : Hid (Below w.heap.size w w4) := HBj.out.trans (hb4.mono HBj.out.size)
            have HH4 := hidden (HHj.out.since hb4)
            obtain ⟨Y, hY⟩ : ∃ Y, Y = tx l q := ⟨_, rfl⟩
            rw [← hY] at HNX hqt ⊢
            clear hb4 hY
            unfold txt
            go_wp2_with fail
            go_roundw
            case rel =>
              refine ⟨j + 1, _, by omega, by go_num, rfl, ?_, ?_, HB4, HH4⟩
              · rw [data_size]
                have h1 := HLE.out (j + 1) (by have := hjk.out; omega)
                rw [HNX.out, ← HT.out] at h1
                simp at h1 ⊢
                omega
              · show _ = _
                rw [HNX.out, ← HT.out]
                simp
            case measure => simp [intOf]; omega
          · obtain ⟨ej⟩ : Nonempty (j = m) := ⟨by omega⟩
            have HEJ : Hid (j = (nd l i).kids.length) := by show _ = _; rw [ej, HM.out, HKS.out]
            clear ej
            go_wp2_with fail
            go_ret
            refine ⟨congrArg Ending.returned (txt_of ?_), HBj.out⟩
            rw [HFULL.out, ← HEJ.out, ← HT.out]
            simp
end Go.Proofs.YtagacfcpepoaoaaGreatDoor

namespace Go.Proofs.YtagacfcpepoaoaaGreatDoor
open Go.RowKit
set_option linter.unusedVariables false

theorem tell_lit (a : Option Addr) (c n : Nat) (l : List Nd) (w : World) (z : Int) (i : Nat) (hn : n = l.length) (hR : Rt l) (hN : Nodes w a l) (hll : n ≤ 100000) (hi : i < l.length) (hz : z = (i : Int)) :
    Calls Tryz.prog 9 #[.slice a n c, .int .i64 z] w fun e w' => e = .returned (txt (tx l i)) ∧ Below w.heap.size w w' := by
  subst hz
  exact tell_any a c n l hn hR hll (i + 1) i (by omega) hi w hN
end Go.Proofs.YtagacfcpepoaoaaGreatDoor
