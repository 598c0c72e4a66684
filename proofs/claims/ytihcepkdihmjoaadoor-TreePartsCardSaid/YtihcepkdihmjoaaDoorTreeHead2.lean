/- The walk through head. -/
import Derived.Test.YtihcepkdihmjoaaDoorTreeHead
namespace Go.Proofs.YtihcepkdihmjoaaDoor
open Go.RowKit
set_option linter.unusedVariables false

theorem sgn_len : ∀ k : Fin 17, (tSigns.getD k.val []).length ≤ 2 := by decide +kernel
theorem words_len : ∀ k : Fin 27, (tWords.getD k.val []).length ≤ 8 := by decide +kernel
theorem kinds_len : ∀ k : Fin 4, (tKinds.getD k.val []).length ≤ 4 := by decide +kernel
theorem wordOf_len (x : Nd) (n0 : -9223372036854775808 ≤ x.n) (n1 : x.n ≤ 9223372036854775807) : (wordOf x).length ≤ 21 := by
  unfold wordOf
  split
  · exact Lib.itoa_length_le x.n n0 n1
  · split
    · cases (x.n == 1) <;> decide
    · split
      · unfold sgnOf
        split
        · have := sgn_len ⟨x.n.toNat, by omega⟩
          simp only at this
          omega
        · simp
      · rcases Nat.lt_or_ge x.kind.toNat 27 with h | h
        · have := words_len ⟨x.kind.toNat, h⟩
          simp only at this
          omega
        · rw [List.getD_eq_getElem?_getD, List.getElem?_eq_none (by exact h)]
          simp
theorem kwOf_len (x : Nd) : (kwOf x).length ≤ 4 := by
  unfold kwOf
  split
  · unfold kindW
    split
    · have := kinds_len ⟨x.n.toNat, by omega⟩
      simp only at this
      omega
    · simp
  · simp
/-- the three that make a head -/
def three (x : Nd) : List (List UInt8) := [wordOf x, x.t, kwOf x]
def ne (t : List UInt8) : Bool := !t.isEmpty
theorem hd_three (x : Nd) : hd x = Lib.join ((three x).filter ne) [32] := rfl
theorem join_len : ∀ (ls : List (List UInt8)), (Lib.join ls [32]).length ≤ (ls.map List.length).sum + ls.length
  | [] => by simp [Lib.join_nil]
  | x :: r => by
    rw [Lib.join_cons]
    have h : ∀ r : List (List UInt8), (Lib.joinTail [32] r).length = (r.map List.length).sum + r.length := by
      intro r
      induction r with
      | nil => rfl
      | cons y q ih =>
        unfold Lib.joinTail at ih ⊢
        simp only [List.map_cons, List.flatten_cons, List.length_append, ih, List.sum_cons, List.length_cons, List.length_nil]
        omega
    rw [List.length_append, h]
    simp
    omega
theorem filter_sum (p : List UInt8 → Bool) : ∀ ls : List (List UInt8), ((ls.filter p).map List.length).sum ≤ (ls.map List.length).sum ∧ (ls.filter p).length ≤ ls.length
  | [] => by simp
  | x :: r => by
    have ih := filter_sum p r
    rw [List.filter_cons]
    split
    · simp; omega
    · simp; omega
theorem hd_len (x : Nd) (n0 : -9223372036854775808 ≤ x.n) (n1 : x.n ≤ 9223372036854775807) : (hd x).length ≤ x.t.length + 28 := by
  rw [hd_three]
  have h1 := join_len ((three x).filter ne)
  have h2 := filter_sum ne (three x)
  have h3 := wordOf_len x n0 n1
  have h4 := kwOf_len x
  have h5 : ((three x).map List.length).sum = (wordOf x).length + (x.t.length + ((kwOf x).length + 0)) := rfl
  have h6 : (three x).length = 3 := rfl
  omega
theorem three_ix (A B C : List UInt8) : ∀ (j : Nat), j < 3 → ∀ (w : World), (Instr.index 78 (.agg #[txt A, txt B, txt C]) (.int .i64 (j : Int))).run Tryd.prog w = .ok (txt ([A, B, C].getD j [])) w
  | 0, _, w => by kernel_rfl
  | 1, _, w => by kernel_rfl
  | 2, _, w => by kernel_rfl
  | n + 3, h, _ => by omega
theorem infoS : (Tryd.prog.info? 9).map (fun i => (i.zero, i.size, i.bytes)) = some (some (.string ⟨#[]⟩), 1, 16) := by kernel_rfl
set_option maxRecDepth 100000 in
set_option maxHeartbeats 8000000 in
theorem head_any (x : Nd) (w : World) (hT : Tabs w) (h1 : 1 ≤ x.kind) (h2 : x.kind ≤ 26) (hx : Ok w x) :
    Calls Tryd.prog 34 #[x.v] w fun e w' => e = .returned (txt (hd x)) ∧ Below w.heap.size w w' := by
  obtain ⟨w1, hw1⟩ : ∃ w1, w1 = w.alloc (.cells x.cs 36) := ⟨_, rfl⟩
  have HB : Hid (Below w.heap.size w w1) := by rw [hw1]; exact (Below.refl _ _).alloc (Nat.le_refl _) _
  have HH : Hid (Held w1 w.heap.size 36 x.cs) := by rw [hw1]; exact Held.new w _ _
  have HT := hidden (hT.below HB.out)
  have cW : ∀ d os, Calls Tryd.prog 51 #[x.v] (Sort.grow (redrawn w1 d) os) fun e w'' => e = .returned (txt (wordOf x)) ∧ ∃ q : Regrown, w'' = Sort.grow (redrawn w1 q.d) q.os := fun d os => Calls.regrown_of (word_any x _ (HT.out.below (below_regrown w1 d os)) h1 h2 hx.n0 hx.n1)
  have cK : ∀ d os, Calls Tryd.prog 52 #[x.v] (Sort.grow (redrawn w1 d) os) fun e w'' => e = .returned (txt (kwOf x)) ∧ ∃ q : Regrown, w'' = Sort.grow (redrawn w1 q.d) q.os := fun d os => Calls.regrown_of (kindWord_any x _ (HT.out.below (below_regrown w1 d os)) h1 h2)
  have HLN : Hid ((hd x).length ≤ 140737488355328) := by
    have a1 := hd_len x hx.n0 hx.n1
    have a2 := hx.s
    have a3 : x.t.length = x.s.size := length_of x.s
    show _ ≤ _
    omega
  have HHD := hidden (hd_three x)
  have HTH : Hid (three x = [wordOf x, x.t, kwOf x]) := rfl
  have HXT : Hid (Value.string x.s = txt x.t) := string_of x.s
  obtain ⟨R, hR⟩ : ∃ R, R = hd x := ⟨_, rfl⟩
  obtain ⟨A, hA⟩ : ∃ A, A = wordOf x := ⟨_, rfl⟩
  obtain ⟨C, hC⟩ : ∃ C, C = kwOf x := ⟨_, rfl⟩
  obtain ⟨Bb, hBb⟩ : ∃ Bb, Bb = x.t := ⟨_, rfl⟩
  rw [← hR] at HLN HHD ⊢
  rw [← hA] at cW HTH
  rw [← hC] at cK HTH
  rw [← hBb] at HXT HTH
  obtain ⟨L, hL⟩ : ∃ L, L = three x := ⟨_, rfl⟩
  rw [← hL] at HTH HHD
  clear hR hA hC hBb hL hT
  obtain ⟨K, ka, kc, ks, n, s, at_⟩ := x
  obtain ⟨m, hm⟩ : ∃ m, m = ks.length := ⟨_, rfl⟩
  have HV : Hid (Nd.v ⟨K, ka, kc, ks, n, s, at_⟩ = .agg #[.int .i64 K, .slice ka m kc, .int .i64 n, .string s, .int .i64 at_]) := by rw [hm]; rfl
  have HV2 : Hid (Nd.cs ⟨K, ka, kc, ks, n, s, at_⟩ = #[.int .i64 K, .slice ka m kc, .int .i64 n, .string s, .int .i64 at_]) := by rw [hm]; rfl
  simp only at HXT
  rw [HXT.out] at HV HV2
  rw [HV.out] at cW cK ⊢
  rw [HV2.out] at HH hw1
  clear hm HV HV2 hx h1 h2 HXT
  unfold txt at cW cK hw1 HH ⊢
  go_enter Tryd.func34, Tryd.ntmps34
  go_wp2_with fail
  rw [← hw1]
  obtain ⟨g, hg⟩ : ∃ g, g = w.heap.size := ⟨_, rfl⟩
  rw [← hg] at HH ⊢
  clear hw1 hg
  have k0 := cell_regrown (HH.out.at_ (j := 0) rfl)
  have k1 := cell_regrown (HH.out.at_ (j := 1) rfl)
  have k2 := cell_regrown (HH.out.at_ (j := 2) rfl)
  have k3 := cell_regrown (HH.out.at_ (j := 3) rfl)
  have k4 := cell_regrown (HH.out.at_ (j := 4) rfl)
  refine wp_region_quiet_below (by kernel_rfl) (by kernel_rfl) ?_
  repeat (any_goals (first | go_big_quiet_step (first | exact cW _ _ | exact cK _ _) | quiet_step (first | exact cW _ _ | exact cK _ _)))
  refine wpQuiet_nil ?_
  intro _ hw'
  obtain ⟨⟨dq, osq⟩, hw''⟩ := hw'
  obtain ⟨w2, hw2⟩ : ∃ w2, w2 = Sort.grow (redrawn w1 dq) osq := ⟨_, rfl⟩
  have HB2 : Hid (Below w.heap.size w w2) := by rw [hw2]; exact HB.out.trans ((below_regrown w1 dq osq).mono HB.out.size)
  rw [hw'', ← hw2]
  clear hw2 hw'' k0 k1 k2 k3 k4 cW cK HH
  have hix := three_ix A Bb C
  unfold txt at hix
  have HIX := hidden hix
  clear hix
  go_wp2_with fail
  go_loopw [3, 5, 13] (fun v _ t wr => ∃ i q : Nat, i ≤ 3 ∧ t = .int .i64 (i : Int) ∧ q ≤ i ∧ Hid (q = ((L.take i).filter ne).length) ∧ Hid (Vals 9 1 w2 wr v q (((L.take i).filter ne).map txt))) (fun _ _ t _ => 3 - (intOf t).toNat)
  case atStart => exact ⟨0, 0, by omega, rfl, by omega, (by show _ = _; simp), (by show Vals _ _ _ _ _ _ _; simp; exact Vals.nil _ _ _)⟩
  case round =>
    obtain ⟨i, q, hi, rfl, hq, HQ, HVV⟩ := hrel
    by_cases hi3 : i < 3
    · have hixi := HIX.out i hi3
      obtain ⟨c, hc⟩ : ∃ c, c = [A, Bb, C].getD i [] := ⟨_, rfl⟩
      rw [← hc] at hixi
      have HTK : Hid (L.take (i + 1) = L.take i ++ [c]) := by
        show _ = _
        rw [HTH.out, hc]
        rcases (show i = 0 ∨ i = 1 ∨ i = 2 by omega) with rfl | rfl | rfl <;> rfl
      clear hc
      have htc : (⟨c.toArray⟩ : ByteArray).toList = c := toList_mk c
      by_cases hce : c = []
      · have HN : Hid ((L.take (i + 1)).filter ne = (L.take i).filter ne) := by
          show _ = _
          rw [HTK.out, hce, List.filter_append]
          simp [ne]
        subst hce
        go_wp2_with fail
        go_roundw
        case rel => exact ⟨i + 1, q, by omega, by go_num, by omega, (by show _ = _; rw [HN.out]; exact HQ.out), (by show Vals _ _ _ _ _ _ _; rw [HN.out]; exact HVV.out)⟩
        case measure => simp [intOf]; omega
      · have HN : Hid ((L.take (i + 1)).filter ne = (L.take i).filter ne ++ [c]) := by
          show _ = _
          have : ne c = true := by unfold ne; simpa using hce
          rw [HTK.out, List.filter_append]
          simp [this]
        have hce' : c.isEmpty = false := by rw [List.isEmpty_eq_false_iff]; exact hce
        have HVN := hidden (HVV.out)
        go_wp2_with (at_builtin; refine wpList_push_vals rfl (.tmp 18) (.tmp 20) 30 9 (.string ⟨#[]⟩) 1 16 Tryd.underlying30 infoS rfl (by decide) (by omega) rfl w2 _ _ q _ [.string ⟨c.toArray⟩] _ rfl rfl HVV.out (by omega) rfl rfl (by intro u hu; simp at hu; subst hu; rfl) ?_; intro v1 w3 hv3)
        have HV3 := hidden hv3
        clear hv3
        go_wp2_with fail
        go_roundw
        case rel => exact ⟨i + 1, q + 1, by omega, by go_num, by omega, (by show _ = _; rw [HN.out, List.length_append, ← HQ.out]; rfl), (by show Vals _ _ _ _ _ _ _; rw [HN.out, List.map_append]; exact HV3.out)⟩
        case measure => simp [intOf]; omega
    · obtain rfl : i = 3 := by omega
      have HLT : Hid (L.take 3 = L) := by show _ = _; rw [HTH.out]; rfl
      rw [HLT.out] at HQ HVV
      rcases Nat.eq_zero_or_pos q with h0 | h0
      · subst h0
        have HE : Hid (R = []) := by
          show _ = _
          rw [HHD.out, List.length_eq_zero_iff.1 HQ.out.symm]
          rfl
        obtain ⟨va, vc, hv, _⟩ := HVV.out.shape
        subst hv
        go_wp2_with fail
        refine (Tryd.strings_Join_none va vc _ wr).mono ?_
        rintro e w3 ⟨rfl, hw3⟩
        rw [hw3]; clear hw3 w3
        go_wp2_with fail
        go_ret
        exact ⟨by rw [HE.out]; rfl, HB2.out.trans (HVV.out.2.mono HB2.out.size)⟩
      · obtain ⟨va, vc, hv, hvc, hcell⟩ := HVV.out.shape
        obtain ⟨g, hg, hglt, hcc⟩ := hcell h0
        subst hv hg
        obtain ⟨F, hF⟩ : ∃ F, F = L.filter ne := ⟨_, rfl⟩
        rw [← hF] at HQ HVV hcc HHD
        have HFL : Hid ((F.map (fun b => (⟨b.toArray⟩ : ByteArray))).length = q) := by show _ = _; rw [List.length_map]; exact HQ.out.symm
        have HFM : Hid ((F.map (fun b => (⟨b.toArray⟩ : ByteArray))).map (·.data.toList) = F) := by
          show _ = _
          rw [List.map_map]
          exact List.map_id F
        have hj := Tryd.strings_Join g 0 vc (F.map (fun b => (⟨b.toArray⟩ : ByteArray))) ⟨#[32]⟩ wr (fun j y hy => by
            rw [Nat.zero_add]
            refine hcc j _ ?_
            rw [List.getElem?_map] at hy ⊢
            cases hfj : F[j]? with
            | none => rw [hfj] at hy; cases hy
            | some b =>
              rw [hfj] at hy
              injection hy with hy
              rw [← hy]
              rfl) hglt (by rw [HFL.out]; omega) (by rw [HFL.out]; exact hvc) (by rw [HFM.out]; have := HLN.out; rw [HHD.out] at this; exact this)
        rw [HFL.out, HFM.out] at hj
        have HJ := hidden hj
        clear hj hcc hF
        go_wp2_with fail
        refine HJ.out.mono ?_
        rintro e w3 ⟨he, hb3⟩
        have he' : e = .returned (.string ⟨R.toArray⟩) := by rw [HHD.out]; exact he
        subst he'
        clear he
        have HB3 := hidden hb3
        clear hb3
        go_wp2_with fail
        go_ret
        exact ⟨rfl, (HB2.out.trans (HVV.out.2.mono HB2.out.size)).trans (HB3.out.mono (HB2.out.trans (HVV.out.2.mono HB2.out.size)).size)⟩
end Go.Proofs.YtihcepkdihmjoaaDoor
