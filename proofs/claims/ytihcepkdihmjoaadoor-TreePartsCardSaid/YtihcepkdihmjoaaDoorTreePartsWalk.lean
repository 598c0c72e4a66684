/- The walk through TreeParts. -/
import Derived.Test.YtihcepkdihmjoaaDoorTreePartWalk
namespace Go.Proofs.YtihcepkdihmjoaaDoor
open Go.RowKit
set_option linter.unusedVariables false

theorem parted_nodes {l : List Nd} {i : Nat} {w w' : World} {e : Ending} (hN : ∀ j, j < l.length → Ok w (nd l j)) (h : Parted l i w e w') :
    ∃ a c L, e = .returned (.slice a L.length c) ∧ Nodes w' a L ∧ PartOf l i L ∧ Below w.heap.size w w' := by
  obtain ⟨v, L, he, hown, hk, hp, hb⟩ := h
  obtain ⟨a, c, hv, _, hn⟩ := nodes_of_vals (w0 := w) ⟨hown, hb⟩ rfl (fun j hj => by
    obtain ⟨f, hf, _⟩ := hp.emb
    have hd := hf.data j hj
    have ho := hN (f j) (hf.lt j hj)
    have hl := congrArg List.length (hf.kids j hj)
    simp only [List.length_map] at hl
    refine now_ok (hk _ (by rw [nd_of hj]; exact List.getElem_mem hj)) ?_ ?_ ?_ ?_
    · rw [hl]; exact ho.len
    · rw [hd.2.1]; exact ho.n0
    · rw [hd.2.1]; exact ho.n1
    · rw [hd.2.2.1]; exact ho.s)
  subst hv
  exact ⟨a, c, L, he, hn, hp, hb⟩
theorem part_lit (a : Option Addr) (c n : Nat) (l : List Nd) (w : World) (z : Int) (i : Nat) (hn : n = l.length) (hT : IsT l) (hN : Nodes w a l) (hll : n ≤ 1000) (hi : i < l.length) (hz : z = (i : Int)) :
    Calls Tryd.prog 24 #[.slice a n c, .int .i64 z] w (Parted l i w) := by
  subst hz
  exact part_any a c n l hn hT hll (i + 1) i (by omega) hi w hN
set_option maxRecDepth 100000 in
set_option maxHeartbeats 20000000 in
theorem parts_walk (a : Option Addr) (n c : Nat) (l : List Nd) (at_ : Int) (w : World) (hTb : Tabs w) (hI : IsNodes w a n c l) (hu : 0 ≤ at_ ∧ at_ ≤ 255) :
    Calls Tryd.prog 6 #[.slice a n c, .int .u8 at_] w fun e w' => e = .returned (.bool true) ∧ Below w.heap.size w w' := by
  obtain ⟨hl, _, hm, hN⟩ := hI
  obtain ⟨hu0, hu1⟩ := hu
  obtain ⟨u, rfl⟩ : ∃ u : Nat, at_ = u := ⟨at_.toNat, by omega⟩
  have HNL : Hid (n = l.length) := hl.symm
  have HN := hidden hN
  have HTB := hidden hTb
  have hmx : n ≤ 9223372036854775807 := by unfold maxLen at hm; omega
  clear hl hN hTb hm
  go_enter Tryd.func6, Tryd.ntmps6
  go_wp2_with fail
  refine (few_any a c n l w HNL.out HN.out hmx).mono ?_
  rintro e w1 ⟨b1, rfl, hfew, hw1⟩
  rw [hw1]; clear hw1 w1
  have HF := hidden hfew
  clear hfew
  cases b1 with
  | false =>
    go_wp2_with fail
    refine (works_any w HTB.out).mono ?_
    rintro e w1 ⟨rfl, hb⟩
    have HB := hidden hb
    clear hb
    go_wp2_with fail
    go_ret
    exact ⟨rfl, HB.out⟩
  | true =>
  have hll : n ≤ 60 := by rw [HNL.out]; exact (HF.out rfl).1
  go_wp2_with fail
  refine (rright_any a c n l w HNL.out HN.out (by omega)).mono ?_
  rintro e w1 ⟨b1, rfl, hiff, hb1⟩
  have HB1 := hidden hb1
  have HIF := hidden hiff
  clear hb1 hiff
  cases b1 with
  | false =>
    go_wp2_with fail
    refine (works_any w1 (HTB.out.below HB1.out)).mono ?_
    rintro e w2 ⟨rfl, hb⟩
    have HB : Hid (Below w.heap.size w w2) := HB1.out.trans (hb.mono HB1.out.size)
    clear hb
    go_wp2_with fail
    go_ret
    exact ⟨rfl, HB.out⟩
  | true =>
  have HR : Hid (Rt l) := HIF.out.1 rfl
  have hpos : 0 < n := by rw [HNL.out]; exact HR.out.1.1
  clear HIF HF
  obtain ⟨I, hIu⟩ : ∃ I, I = u % n := ⟨_, rfl⟩
  have hIn : I < n := by rw [hIu]; exact Nat.mod_lt _ hpos
  have e1 : (u : Int).tmod (n : Int) = (I : Int) := by
    rw [Int.tmod_eq_emod_of_nonneg (by omega), hIu]
    exact (Int.natCast_emod u n).symm
  have hn0 : ¬ (n : Int) = 0 := by omega
  have hIni : (I : Int) < (n : Int) := by omega
  have HIL : Hid (I < l.length) := by show I < _; rw [← HNL.out]; exact hIn
  clear hIu
  go_wp2_with fail
  refine (part_lit a c n l w1 _ I HNL.out HR.out.1 (HN.out.below HB1.out) (by omega) HIL.out rfl).mono ?_
  intro e w2 hpt
  obtain ⟨pa, pc, L, rfl, hNL, hPO, hb2⟩ := parted_nodes (HN.out.below HB1.out).2 hpt
  have HB2 : Hid (Below w.heap.size w w2) := HB1.out.trans (hb2.mono HB1.out.size)
  have HNP := hidden hNL
  have HTOLD := hidden (hPO.told HR.out HIL.out)
  have hL0 := hPO.pos
  have hLl : L.length ≤ n := by rw [hPO.size, HNL.out]; exact sz_le HR.out.1 HIL.out
  clear hpt hNL hPO hb2
  obtain ⟨P, hP⟩ : ∃ P, L.length = P + 1 := ⟨L.length - 1, by omega⟩
  have HPL : Hid (P + 1 = L.length) := hP.symm
  rw [hP] at hLl
  rw [hP, Nat.add_sub_cancel] at HTOLD
  rw [hP]
  clear hP hL0
  go_wp2_with fail
  refine (heights_len a c n l w2 HNL.out (HTB.out.below HB2.out) (HN.out.below HB2.out) (by omega)).mono ?_
  rintro e w3 ⟨hb3, hcase⟩
  have HB3 : Hid (Below w.heap.size w w3) := HB2.out.trans (hb3.mono HB2.out.size)
  have HNP3 := hidden (HNP.out.below hb3)
  rcases hcase with ⟨_, gh, he, hrows⟩ | ⟨h, _⟩
  · rw [← HNL.out] at he hrows
    subst he
    have HRW := hidden hrows
    clear hb3 hrows HNP
    go_wp2_with fail
    refine (heights_len pa pc (P + 1) L w3 HPL.out (HTB.out.below HB3.out) HNP3.out (by omega)).mono ?_
    rintro e w4 ⟨hb4, hcase⟩
    have HB4 : Hid (Below w.heap.size w w4) := HB3.out.trans (hb4.mono HB3.out.size)
    have HNP4 := hidden (HNP3.out.below hb4)
    have HRW4 := hidden (HRW.out.below hb4)
    rcases hcase with ⟨_, gk, he, hrows⟩ | ⟨h, _⟩
    · rw [← HPL.out] at he hrows
      subst he
      have HRK := hidden hrows
      clear hb4 hrows HNP3 HRW
      obtain ⟨gb, go, hge, _, hgc⟩ := HRW4.out hpos
      injection hge with hge
      injection hge with q1 q2
      subst q1 q2
      have ch := hgc I hIn
      simp only [Nat.zero_add] at ch
      obtain ⟨kb, ko, hke, _, hkc⟩ := HRK.out (by omega)
      injection hke with hke
      injection hke with q1 q2
      subst q1 q2
      have ck := hkc P (by omega)
      simp only [Nat.zero_add] at ck
      rw [HTOLD.out.2.1] at ck
      have ch := cell_regrown ch
      have ck := cell_regrown ck
      have cR : ∀ d os, Calls Tryd.prog 11 #[.slice pa (P + 1) pc] (Sort.grow (redrawn w4 d) os) fun e w'' => e = .returned (.bool true) ∧ ∃ q : Regrown, w'' = Sort.grow (redrawn w4 q.d) q.os := fun d os => Calls.regrown_of ((right_len pa pc (P + 1) L _ HPL.out ((HTB.out.below HB4.out).below (below_regrown w4 d os)) (HNP4.out.below (below_regrown w4 d os)) (by omega)).mono (fun e w' h => by
        obtain ⟨b, he, hiff, hb⟩ := h
        exact ⟨by rw [he, hiff.2 HTOLD.out.1], hb⟩))
      have cT : ∀ d os, Calls Tryd.prog 13 #[.slice pa (P + 1) pc] (Sort.grow (redrawn w4 d) os) fun e w'' => e = .returned (txt (tx l I)) ∧ ∃ q : Regrown, w'' = Sort.grow (redrawn w4 q.d) q.os := fun d os => Calls.regrown_of ((text_any pa pc (P + 1) L _ HPL.out ((HTB.out.below HB4.out).below (below_regrown w4 d os)) (HNP4.out.below (below_regrown w4 d os)) (by omega)).mono (fun e w' h => by
        refine ⟨?_, h.1⟩
        rcases h.2 with ⟨_, he⟩ | ⟨hno, _⟩
        · rw [he, ← HPL.out, Nat.add_sub_cancel, HTOLD.out.2.2]
        · exact absurd HTOLD.out.1 hno))
      have cL : ∀ d os, Calls Tryd.prog 15 #[.slice a n c, .int .i64 (I : Int)] (Sort.grow (redrawn w4 d) os) fun e w'' => e = .returned (txt (tx l I)) ∧ ∃ q : Regrown, w'' = Sort.grow (redrawn w4 q.d) q.os := fun d os => Calls.regrown_of (tell_lit a c n l _ _ I HNL.out HR.out ((HN.out.below HB4.out).below (below_regrown w4 d os)) (by omega) HIL.out rfl)
      have cW : ∀ d os, Calls Tryd.prog 8 #[] (Sort.grow (redrawn w4 d) os) fun e w'' => e = .returned (.bool true) ∧ ∃ q : Regrown, w'' = Sort.grow (redrawn w4 q.d) q.os := fun d os => Calls.regrown_of (works_any _ ((HTB.out.below HB4.out).below (below_regrown w4 d os)))
      obtain ⟨G, hG⟩ : ∃ G, G = hgt l I := ⟨_, rfl⟩
      rw [← hG] at ch ck
      obtain ⟨T, hT⟩ : ∃ T, T = tx l I := ⟨_, rfl⟩
      rw [← hT] at cT cL
      unfold txt at cT cL
      clear hG hT hgc hkc
      go_wp2_with fail
      refine wp_region_quiet_below (by kernel_rfl) (by kernel_rfl) ?_
      repeat (any_goals (first | go_big_quiet_step (first | exact cR _ _ | exact cT _ _ | exact cL _ _ | exact cW _ _) | quiet_step (first | exact cR _ _ | exact cT _ _ | exact cL _ _ | exact cW _ _)))
      refine wpQuiet_nil ?_
      intro _ hw'
      obtain ⟨⟨dq, osq⟩, hw''⟩ := hw'
      obtain ⟨w5, hw5⟩ : ∃ w5, w5 = Sort.grow (redrawn w4 dq) osq := ⟨_, rfl⟩
      have HB5 : Hid (Below w.heap.size w w5) := by rw [hw5]; exact HB4.out.trans ((below_regrown w4 dq osq).mono HB4.out.size)
      rw [hw'', ← hw5]
      clear hw5 hw''
      go_wp2_with fail
      go_ret
      exact ⟨rfl, HB5.out⟩
    · exact absurd HTOLD.out.1 h
  · exact absurd HR.out h
end Go.Proofs.YtihcepkdihmjoaaDoor
