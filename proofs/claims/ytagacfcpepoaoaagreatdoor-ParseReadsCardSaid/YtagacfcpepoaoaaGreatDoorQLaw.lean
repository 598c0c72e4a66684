/- QuoteSame, ParseReadsWalk, in one text. -/
import Derived.Test.YtagacfcpepoaoaaGreatDoorQuoteParse
namespace Go.Proofs.YtagacfcpepoaoaaGreatDoor
open Go.RowKit
set_option linter.unusedVariables false

set_option maxRecDepth 100000 in
set_option maxHeartbeats 20000000 in
theorem same_any (a b : Option Addr) (c d n : Nat) (l r : List Nd) (w : World) (hn : n = l.length) (hL : Nodes w a l) (hR : Nodes w b r) (hll : n ≤ 1000000) (hkl : ∀ i, i < l.length → (nd l i).kids.length ≤ 1000000) (he : l.map bare = r.map bare) :
    Calls Tryz.prog 7 #[.slice a n c, .slice b n d] w fun e w' => e = .returned (.bool true) ∧ Below w.heap.size w w' := by
  have hnr : n = r.length := by have := congrArg List.length he; rw [List.length_map, List.length_map] at this; omega
  have HNL := hidden hn
  have HNR := hidden hnr
  have HL := hidden hL
  have HR := hidden hR
  have HKL := hidden hkl
  have HE : Hid (∀ i, i < l.length → bare (nd l i) = bare (nd r i)) := fun i hi => by rw [← nd_bare l i, ← nd_bare r i, he]
  clear hn hL hR hkl he hnr
  go_enter Tryz.func7, Tryz.ntmps7
  go_wp2_with fail
  go_loopw [5] (fun t wr => ∃ i : Nat, i ≤ n ∧ t = .int .i64 (i : Int) ∧ Hid (Below w.heap.size w wr)) (fun t _ => n - (intOf t).toNat)
  case atStart => exact ⟨0, by omega, rfl, Below.refl _ _⟩
  case round =>
    obtain ⟨i, hi, rfl, HB⟩ := hrel
    by_cases hil : i < n
    · have hili : (i : Int) < (n : Int) := by omega
      have HIL : Hid (i < l.length) := by show i < _; rw [← HNL.out]; exact hil
      have HIR : Hid (i < r.length) := by show i < _; rw [← HNR.out]; exact hil
      obtain ⟨lb, lo, rfl, hlb, hl5⟩ := (HL.out.below HB.out).at_ HIL.out
      obtain ⟨rb, ro, rfl, hrb, hr5⟩ := (HR.out.below HB.out).at_ HIR.out
      have HOL := hidden ((HL.out.below HB.out).2 i HIL.out)
      have HOR := hidden ((HR.out.below HB.out).2 i HIR.out)
      have hlk := HKL.out i HIL.out
      have hbe := HE.out i HIL.out
      obtain ⟨x, hx⟩ : ∃ x, x = nd l i := ⟨_, rfl⟩
      obtain ⟨y, hy⟩ : ∃ y, y = nd r i := ⟨_, rfl⟩
      rw [← hx] at hl5 HOL hlk hbe
      rw [← hy] at hr5 HOR hbe
      have q0 : y.kind = x.kind := by injection hbe with h; exact h.symm
      have q1 : y.kids = x.kids := by injection hbe with _ _ _ h; exact h.symm
      have q2 : y.n = x.n := by injection hbe with _ _ _ _ h; exact h.symm
      have q3 : y.s = x.s := by injection hbe with _ _ _ _ _ h; exact h.symm
      have q4 : y.at_ = x.at_ := by injection hbe with _ _ _ _ _ _ h; exact h.symm
      obtain ⟨a0, a1, a2, a3, a4⟩ := hl5
      obtain ⟨b0, b1, b2, b3, b4⟩ := hr5
      rw [q0] at b0
      rw [q1] at b1
      rw [q2] at b2
      rw [q3] at b3
      rw [q4] at b4
      obtain ⟨M, hM⟩ : ∃ M, M = x.kids.length := ⟨_, rfl⟩
      rw [← hM] at a1 b1 hlk
      have HROW1 : Hid (Rows' .i64 wr x.ka M (fun j => x.kids.getD j 0)) := by rw [hM]; exact HOL.out.rows
      have HROW2 : Hid (Rows' .i64 wr y.ka M (fun j => x.kids.getD j 0)) := by have h := HOR.out.rows; rw [q1] at h; rw [hM]; exact h
      obtain ⟨KD, hKD⟩ : ∃ KD, KD = x.kind := ⟨_, rfl⟩
      obtain ⟨NN, hNN⟩ : ∃ NN, NN = x.n := ⟨_, rfl⟩
      obtain ⟨SS, hSS⟩ : ∃ SS, SS = x.s := ⟨_, rfl⟩
      obtain ⟨AT, hAT⟩ : ∃ AT, AT = x.at_ := ⟨_, rfl⟩
      obtain ⟨xs, hxs⟩ : ∃ xs, xs = x.kids := ⟨_, rfl⟩
      obtain ⟨ka, hka⟩ : ∃ ka, ka = x.ka := ⟨_, rfl⟩
      obtain ⟨kc, hkc⟩ : ∃ kc, kc = x.kc := ⟨_, rfl⟩
      obtain ⟨kb, hkb⟩ : ∃ kb, kb = y.ka := ⟨_, rfl⟩
      obtain ⟨kd, hkd⟩ : ∃ kd, kd = y.kc := ⟨_, rfl⟩
      rw [← hKD] at a0 b0
      rw [← hNN] at a2 b2
      rw [← hSS] at a3 b3
      rw [← hAT] at a4 b4
      rw [← hka, ← hkc] at a1
      rw [← hkb, ← hkd] at b1
      rw [← hxs, ← hka] at HROW1
      rw [← hxs, ← hkb] at HROW2
      clear hx hy hbe q0 q1 q2 q3 q4 hM hKD hNN hSS hAT hxs hka hkc hkb hkd HOL HOR
      have HA1 := hidden a1
      have HB1 := hidden b1
      have HLB := hidden hlb
      have HRB := hidden hrb
      have ss1 : (SS.toList == SS.toList) = true := by simp
      go_wp2_with fail
      go_quiet (fail)
      clear a0 a1 a2 a3 a4 b0 b1 b2 b3 b4 ss1
      obtain ⟨wo, hwo⟩ : ∃ wo, wo = wr := ⟨_, rfl⟩
      rw [← hwo] at HA1 HB1 HLB HRB HROW1 HROW2 HB ⊢
      clear hwo
      go_wp2_with fail
      go_loopw [6] (fun t wv => ∃ k : Nat, k ≤ M ∧ t = .int .i64 (k : Int) ∧ Hid (Below wo.heap.size wo wv)) (fun t _ => M - (intOf t).toNat)
      case atStart => exact ⟨0, by omega, rfl, (below_drewN _ _ _)⟩
      case round =>
        obtain ⟨k, hk, rfl, HBV⟩ := hrel
        have a1 := (HBV.out.cell (p := ⟨lb, lo + i * 5 + 1, none⟩) HLB.out).trans HA1.out
        have b1 := (HBV.out.cell (p := ⟨rb, ro + i * 5 + 1, none⟩) HRB.out).trans HB1.out
        by_cases hkm : k < M
        · have hkmi : (k : Int) < (M : Int) := by omega
          obtain ⟨bb, bo, hba, hbl, hbc⟩ := (HROW1.out.below HBV.out) (by omega)
          obtain ⟨db, do_, hda, hdl, hdc⟩ := (HROW2.out.below HBV.out) (by omega)
          have c1 := hbc k hkm
          have d1 := hdc k hkm
          simp only at c1 d1
          obtain ⟨v, hv⟩ : ∃ v, v = xs.getD k 0 := ⟨_, rfl⟩
          rw [← hv] at c1 d1
          rw [hba] at a1
          rw [hda] at b1
          clear hv hbc hdc hba hda hbl hdl
          go_wp2_with fail
          go_quiet (fail)
          go_wp2_with fail
          go_roundw
          case rel => exact ⟨k + 1, by omega, by go_num, HBV.out.trans (below_drewN _ _ _)⟩
          case measure => simp [intOf]; omega
        · have hkmi : ¬ (k : Int) < (M : Int) := by omega
          go_wp2_with fail
          go_roundw
          case rel => exact ⟨i + 1, by omega, by go_num, below_then HB.out HBV.out⟩
          case measure => simp [intOf]; omega
    · have hili : ¬ (i : Int) < (n : Int) := by omega
      go_wp2_with fail
      go_ret
      exact ⟨rfl, HB.out⟩
end Go.Proofs.YtagacfcpepoaoaaGreatDoor

namespace Go.Proofs.YtagacfcpepoaoaaGreatDoor
open Go.RowKit
set_option linter.unusedVariables false

theorem qparse_told (s : ByteArray) (w : World) (hT : XTabs w) (hs : s.size ≤ 65536) :
    Calls Tryz.prog 6 #[.string s] w (PT s.data.toList w) := by
  refine (qparse_any s w hT hs).mono ?_
  rintro e w' ⟨hb, h⟩
  refine ⟨hb, ?_⟩
  rcases h with h | ⟨L, v, hTl, hr, h⟩
  · exact .inl h
  · refine .inr ⟨L, v, hTl, hr, ?_⟩
    have hlen : s.data.toList.length ≤ 65536 := by rw [Array.length_toList]; exact hs
    have hIL := T_isL hTl hlen
    have hLL := (T_len hTl).2
    have hIT := T_isTk hTl
    rcases h with ⟨r, val, hp, he, hg⟩ | ⟨x, q, hp, hx, he⟩
    · match v, hr, hp with
      | .ok (ps, s'), hr, hp =>
        have hp : s'.l = r := by injection hp
        subst hp
        have ht := preads_told hIT hIL.some hr
        have hpl := prog_len hr
        obtain ⟨a, c, l', rfl, hN, hb'⟩ := hg.nodes (fun x hx => ⟨Nat.le_trans (ht.2.2.2.1 x hx) (by omega), (ht.2.2.2.2 x hx).1, (ht.2.2.2.2 x hx).2, s_small ht.1 x hx⟩)
        refine .inl ⟨ps, s', l', a, c, rfl, he, hN, hb', ?_⟩
        have := congrArg List.length hb'
        rw [List.length_map] at this
        omega
    · match v, hp with
      | .error f, hp =>
        have hp : f = (x, q) := by injection hp
        exact .inr ⟨x, q, by rw [hp], hx, he⟩
/-- what both tell is one -/
def Both (w w1 w2 : World) (v1 v2 : Value) (x1 q1 x2 q2 : Int) : Prop := x1 = x2 ∧ q1 = q2 ∧
  ∃ (a b : Option Addr) (c d n : Nat) (l r : List Nd), v1 = .slice a n c ∧ v2 = .slice b n d ∧ n = l.length ∧ Nodes w1 a l ∧ Nodes w2 b r ∧ n ≤ 1000000 ∧ (∀ i, i < l.length → (nd l i).kids.length ≤ 1000000) ∧ l.map bare = r.map bare
theorem nodes_nil (w : World) : Nodes w none [] := ⟨fun h => absurd h (by decide), fun j hj => absurd hj (Nat.not_lt_zero j)⟩
theorem bare_nd_kids {l : List Nd} {i : Nat} : (nd (l.map bare) i).kids = (nd l i).kids := by rw [nd_bare]; rfl
/-- what is told once, and again -/
theorem both_of {l : List UInt8} {w w1 w2 w1' : World} {e1 e2 : Ending} (hlen : l.length ≤ 65536) (h1 : PT l w e1 w1) (h2 : PT l w1' e2 w2) : ∃ v1 v2 x1 q1 x2 q2, e1 = .returned (.tuple #[v1, .agg #[.int .i64 x1, .int .i64 q1]]) ∧ e2 = .returned (.tuple #[v2, .agg #[.int .i64 x2, .int .i64 q2]]) ∧ Both w w1 w2 v1 v2 x1 q1 x2 q2 := by
  rcases h1.2 with ⟨x, q, hT, he⟩ | ⟨L, v, hT, hr, h⟩
  · rcases h2.2 with ⟨x', q', hT', he'⟩ | ⟨L', v', hT', _⟩
    · rw [hT] at hT'
      injection hT' with hT'
      injection hT' with e1 e2
      subst e1 e2
      exact ⟨_, _, _, _, _, _, he, he', rfl, rfl, none, none, 0, 0, 0, [], [], rfl, rfl, rfl, nodes_nil _, nodes_nil _, by decide, fun i hi => absurd hi (Nat.not_lt_zero i), rfl⟩
    · rw [hT] at hT'; cases hT'
  · rcases h2.2 with ⟨x', q', hT', he'⟩ | ⟨L', v', hT', hr', h'⟩
    · rw [hT] at hT'; cases hT'
    · rw [hT] at hT'
      injection hT' with hT'
      subst hT'
      obtain rfl := hr.one hr'
      rcases h with ⟨ps, s', l1, a, c, rfl, he, hN, hb, hl⟩ | ⟨x, q, rfl, hx, he⟩
      · rcases h' with ⟨ps', s'', l2, a', c', hv, he', hN', hb', hl'⟩ | ⟨x', q', hv, _⟩
        · injection hv with hv
          injection hv with _ hv
          subst hv
          have hIL := T_isL hT hlen
          have ht := preads_told (T_isTk hT) hIL.some hr
          have hLL := (T_len hT).2
          have hpl := prog_len hr
          have hll : l1.length = l2.length := by have h3 := congrArg List.length hb; have h4 := congrArg List.length hb'; rw [List.length_map] at h3 h4; omega
          refine ⟨_, _, _, _, _, _, he, he', rfl, rfl, a, a', c, c', l1.length, l1, l2, rfl, by rw [hll], rfl, hN, hN', by omega, fun i hi => ?_, hb.trans hb'.symm⟩
          rw [← bare_nd_kids, hb]
          have hi' : i < s'.l.length := by rw [← hb, List.length_map]; exact hi
          rw [nd_of hi']
          have := ht.2.2.2.1 _ (List.getElem_mem hi')
          omega
        · cases hv
      · rcases h' with ⟨ps', s'', l2, a', c', hv, _⟩ | ⟨x', q', hv, hx', he'⟩
        · cases hv
        · injection hv with hv
          injection hv with e1 e2
          subst e1 e2
          exact ⟨_, _, _, _, _, _, he, he', rfl, rfl, none, none, 0, 0, 0, [], [], rfl, rfl, rfl, nodes_nil _, nodes_nil _, by decide, fun i hi => absurd hi (Nat.not_lt_zero i), rfl⟩
set_option maxRecDepth 100000 in
set_option maxHeartbeats 20000000 in
theorem preads_any (s : ByteArray) (w : World) (hT : PTabs w) :
    Calls Tryz.prog 3 #[.string s] w fun e w' => e = .returned (.bool true) ∧ Below w.heap.size w w' := by
  have HT := hidden hT
  clear hT
  by_cases hs : 2000 < s.size
  · have hsi : (2000 : Int) < (s.size : Int) := by omega
    clear hs
    go_enter Tryz.func3, Tryz.ntmps3
    go_wp2_with fail
    refine (works_any w HT.out).mono ?_
    rintro e w1 ⟨rfl, hb⟩
    have HB := hidden hb
    clear hb
    go_wp2_with fail
    go_ret
    exact ⟨rfl, HB.out⟩
  · have hsi : ¬ (2000 : Int) < (s.size : Int) := by omega
    have HP1 := hidden (pparse_told s w HT.out (by omega))
    have HP2 := hidden (fun w' (hb : Below w.heap.size w w') => qparse_told s w' (HT.out.below hb).ex (by omega))
    have HLEN : Hid (s.data.toList.length ≤ 65536) := by show _ ≤ _; rw [Array.length_toList]; exact Nat.le_trans (Nat.le_of_not_lt hs) (by omega)
    obtain ⟨l, hl⟩ : ∃ l, l = s.data.toList := ⟨_, rfl⟩
    rw [← hl] at HP1 HP2 HLEN
    clear hs hl
    go_enter Tryz.func3, Tryz.ntmps3
    rw [veil 4, veil 5]
    go_wp2_with fail
    refine HP1.out.mono ?_
    intro e1 w1 h1
    have H1 := hidden h1
    have HV1 : ∃ v1 x1 q1, e1 = .returned (.tuple #[v1, .agg #[.int .i64 x1, .int .i64 q1]]) := by
      rcases h1.2 with ⟨x, q, _, he⟩ | ⟨L, v, _, _, ⟨ps, s', l', a, c, _, he, _⟩ | ⟨x, q, _, _, he⟩⟩
      · exact ⟨_, _, _, he⟩
      · exact ⟨_, _, _, he⟩
      · exact ⟨_, _, _, he⟩
    obtain ⟨v1, x1, q1, rfl⟩ := HV1
    clear h1 HP1
    go_wp2_with fail
    obtain ⟨W2, hW2⟩ : ∃ W2, W2 = w1.alloc (.cells #[.int .i64 x1, .int .i64 q1] 26) := ⟨_, rfl⟩
    obtain ⟨A2, hA2⟩ : ∃ A2, A2 = w1.heap.size := ⟨_, rfl⟩
    have HG2 : Hid (Held W2 A2 26 #[.int .i64 x1, .int .i64 q1]) := by rw [hW2, hA2]; exact Held.new _ _ _
    have hb2 : Below w1.heap.size w1 W2 := by rw [hW2]; exact (Below.refl _ _).alloc (Nat.le_refl _) _
    have HB1 : Hid (Below w1.heap.size w1 W2) := hb2
    have HBW : Hid (Below w.heap.size w W2) := H1.out.1.trans (hb2.mono H1.out.1.size)
    rw [← hW2, ← hA2]
    clear hW2 hA2 hb2
    refine wp_veil ?_
    go_wp2_with fail
    refine (HP2.out W2 HBW.out).mono ?_
    intro e2 w3 h3
    obtain ⟨v1', v2, x1', q1', x2, q2, he1, he2, hbo⟩ := both_of HLEN.out H1.out h3
    injection he1 with he1
    injection he1 with he1
    injection he1 with he1
    injection he1 with e1 he1
    injection he1 with he1 _
    injection he1 with he1
    injection he1 with he1
    injection he1 with e2' he1
    injection he1 with e3 _
    injection e2' with _ e2'
    injection e3 with _ e3
    subst e1 e2' e3 he2
    obtain ⟨rfl, rfl, a, b, c, d, n, l1, r1, rfl, rfl, hn, hN1, hN2, hn2, hk, hbe⟩ := hbo
    have HN := hidden hn
    have HN2 := hidden hn2
    have HKL := hidden hk
    have HBE := hidden hbe
    have HR1 := hidden hN2
    have HL1 := hidden hN1
    have HB3 : Hid (Below W2.heap.size W2 w3) := h3.1
    have HB0 : Hid (Below w.heap.size w w1) := H1.out.1
    clear hn hn2 hk hbe hN1 hN2 h3 HP2 H1
    go_wp2_with fail
    obtain ⟨W4, hW4⟩ : ∃ W4, W4 = w3.alloc (.cells #[.int .i64 x1, .int .i64 q1] 26) := ⟨_, rfl⟩
    obtain ⟨A4, hA4⟩ : ∃ A4, A4 = w3.heap.size := ⟨_, rfl⟩
    have HG4 : Hid (Held W4 A4 26 #[.int .i64 x1, .int .i64 q1]) := by rw [hW4, hA4]; exact Held.new _ _ _
    have hb4 : Below w3.heap.size w3 W4 := by rw [hW4]; exact (Below.refl _ _).alloc (Nat.le_refl _) _
    have HB24 : Hid (Below W2.heap.size W2 W4) := below_then HB3.out hb4
    have HB14 : Hid (Below w1.heap.size w1 W4) := below_then HB1.out HB24.out
    have HBX : Hid (Below w.heap.size w W4) := below_then HBW.out HB24.out
    have HG24 := hidden (HG2.out.since HB24.out)
    replace HL1 := hidden (HL1.out.below HB14.out)
    replace HR1 := hidden (HR1.out.below hb4)
    rw [← hW4, ← hA4]
    clear hW4 hA4 hb4
    refine wp_veil ?_
    go_wp2_with fail
    refine (same_any a b c d n l1 r1 W4 HN.out HL1.out HR1.out HN2.out HKL.out HBE.out).mono ?_
    rintro en w5 ⟨rfl, hb⟩
    have HG25 := hidden (HG24.out.since hb)
    have HG45 := hidden (HG4.out.since hb)
    have HB5 := hidden (below_then HBX.out hb)
    clear hb
    have y0 : w5.cell? ⟨A2, 0, none⟩ = some (.int .i64 x1) := HG25.out.at_ rfl
    have y1 : w5.cell? ⟨A2, 1, none⟩ = some (.int .i64 q1) := HG25.out.at_ rfl
    have z0 : w5.cell? ⟨A4, 0, none⟩ = some (.int .i64 x1) := HG45.out.at_ rfl
    have z1 : w5.cell? ⟨A4, 1, none⟩ = some (.int .i64 q1) := HG45.out.at_ rfl
    go_wp2_with fail
    refine (works_any w5 (HT.out.below HB5.out)).mono ?_
    rintro en w6 ⟨rfl, hb⟩
    have HB6 := hidden (below_then HB5.out hb)
    clear hb
    go_wp2_with fail
    go_ret
    exact ⟨rfl, HB6.out⟩
end Go.Proofs.YtagacfcpepoaoaaGreatDoor
