/- The walk through the reader's chain, and all of them together: what Expr reads. -/
import Derived.Test.YtagacfcpepoaoaaGreatDoorMFront
namespace Go.Proofs.YtagacfcpepoaoaaGreatDoor
open Go.RowKit
set_option linter.unusedVariables false

variable {B g : Nat} {L : List Tk}
def CChain (B g : Nat) (L : List Tk) (lv M : Nat) : Prop := ∀ w R d s, Good B g L w R d s → d ≤ 200 → s.r.length ≤ M → Calls Tryz.prog 90 #[.pointer (some ⟨g, 0, none⟩), .int .i64 (lv : Int)] w (Post B g L (.chain lv) w R d s)
theorem chain5_of {M : Nat} (h : CFront B g L M) : CChain B g L 5 M := by
  intro w R d s H hd hM
  have HC := hidden (h w R d s H hd hM)
  clear h H
  go_enter Tryz.func90, Tryz.ntmps90
  go_wp2_with fail
  go_step3
  go_wp2_with fail
  refine HC.out.mono ?_
  rintro en w2 ⟨v, hrd, hEn⟩
  obtain ⟨k9, rfl⟩ := hEn.val
  have HEN := hidden hEn
  have HRD := hidden hrd
  clear hEn hrd
  go_wp2_with fail
  try rw [Exit.noGoto_ret]
  go_ret
  exact ⟨_, HRD.out.chain5, HEN.out⟩
theorem opFrom_hit {t : Tk} : ∀ (n a k : Nat), a ≤ k → k < a + n → (∀ j, a ≤ j → j < k → sees t (tSigns.getD j []) = false) → sees t (tSigns.getD k []) = true → opFrom t a n = some k
  | 0, a, k, h1, h2, _, _ => by omega
  | n + 1, a, k, h1, h2, h3, h4 => by
    unfold opFrom
    rcases Nat.eq_or_lt_of_le h1 with e | e
    · subst e; rw [if_pos h4]
    · rw [if_neg (by rw [h3 a (Nat.le_refl _) e]; decide)]
      exact opFrom_hit n (a + 1) k e (by omega) (fun j hj => h3 j (by omega)) h4
theorem opFrom_none {t : Tk} : ∀ (n a : Nat), (∀ j, a ≤ j → j < a + n → sees t (tSigns.getD j []) = false) → opFrom t a n = none
  | 0, a, _ => rfl
  | n + 1, a, h => by
    unfold opFrom
    rw [if_neg (by rw [h a (Nat.le_refl _) (by omega)]; decide)]
    exact opFrom_none n (a + 1) (fun j h1 h2 => h j (by omega) (by omega))
/-- chain on the way -/
def ChSt (B g : Nat) (L : List Tk) (w : World) (R : Bx) (d lv : Nat) (s : PS) (G : Nat) (cs : Array Value) (t6 : Value) (wr : World) : Prop :=
  Held wr G 101 cs ∧ ∃ R1, Fr g w wr R R1 ∧ R1.Z = R.Z ∧ (
    (∃ p s1, t6 = .int .i64 p ∧ Good B g L wr R1 d s1 ∧ s1.r.length ≤ s.r.length ∧ s1.l.length + s1.r.length ≤ s.l.length + s.r.length ∧ ∀ v, Reads (.loop lv p) d s1 v → Reads (.chain lv) d s v) ∨
    (∃ f, t6 = .int .i64 (-1) ∧ Bad B g L wr R1 d f ∧ Reads (.chain lv) d s (.error f)))
set_option maxRecDepth 100000 in
set_option maxHeartbeats 8000000 in
theorem chain_of {lv M : Nat} (hlv : lv < 5) (hC : CChain B g L (lv + 1) M) : CChain B g L lv M := by
  intro w R d s H hd hM
  have HIH : Hid (∀ w R d s, Good B g L w R d s → d ≤ 200 → s.r.length ≤ M → Calls Tryz.prog 90 #[.pointer (some ⟨g, 0, none⟩), .int .i64 ((lv : Int) + 1)] w (Post B g L (.chain (lv + 1)) w R d s)) := fun w R d s h1 h2 h3 => by
    have := hC w R d s h1 h2 h3
    rw [show ((lv + 1 : Nat) : Int) = (lv : Int) + 1 by omega] at this
    exact this
  have HH := hidden H
  have HSZ := hidden H.size
  have HM := hidden hM
  obtain ⟨x0, x1, x2⟩ := str_at H.tabs hlv
  have hob := op_bounds hlv
  have HL5 : Hid (lv ≠ 5) := by show lv ≠ 5; omega
  obtain ⟨o1, ho1⟩ : ∃ o1, o1 = opFirst lv := ⟨_, rfl⟩
  obtain ⟨o2, ho2⟩ : ∃ o2, o2 = opLast lv := ⟨_, rfl⟩
  obtain ⟨once, hon⟩ : ∃ once, once = (lv == 2) := ⟨_, rfl⟩
  have HAT : Hid (∀ t, opAt lv t = opFrom t o1 (o2 + 1 - o1)) := fun t => by rw [ho1, ho2]; rfl
  have HON := hidden hon
  rw [← ho1] at x0 hob
  rw [← ho2] at x1 hob
  rw [← hon] at x2
  clear H hC hM ho1 ho2 hon
  obtain ⟨hq1, hq2, hq3⟩ := hob
  have hne : ((lv : Int) == 5) = false := by simp; omega
  have hfd := field_at
  go_enter Tryz.func90, Tryz.ntmps90
  rw [veil 4, veil 11, veil 12]
  go_wp2_with fail
  go_step3
  go_wp2_with fail
  obtain ⟨W, hW⟩ : ∃ W, W = w.alloc (.cells #[.int .i64 (o1 : Int), .int .i64 (o2 : Int), .bool once] 101) := ⟨_, rfl⟩
  obtain ⟨G, hG⟩ : ∃ G, G = w.heap.size := ⟨_, rfl⟩
  have HG : Hid (Held W G 101 #[.int .i64 (o1 : Int), .int .i64 (o2 : Int), .bool once]) := by rw [hW, hG]; exact Held.new _ _ _
  have HB : Hid (Below w.heap.size w W) := by rw [hW]; exact (Below.refl _ _).alloc (Nat.le_refl _) _
  rw [← hW, ← hG]
  clear hW hG x0 x1 x2 hne
  refine wp_veil ?_
  go_wp2_with fail
  refine (HIH.out W R d s (HH.out.below HB.out) hd HM.out).mono ?_
  rintro en w1 ⟨v, hrd, R1, hf, hz, hv⟩
  have HST : Hid (∃ k, en = .returned (.int .i64 k) ∧ ChSt B g L w R d lv s G #[.int .i64 (o1 : Int), .int .i64 (o2 : Int), .bool once] (.int .i64 k) w1) := by
    have hG1 := (HH.out.below HB.out).held hf HG.out (by decide) (by decide) (by decide)
    have hF1 := (Fr.of_below R HB.out).trans hf
    rcases hv with ⟨k, s1, rfl, rfl, hg⟩ | ⟨f, rfl, rfl, hg⟩
    · have := hrd.slack
      exact ⟨k, rfl, hG1, R1, hF1, hz, .inl ⟨k, s1, rfl, hg, by omega, by omega, fun v h => Reads.chain HL5.out hrd h⟩⟩
    · exact ⟨-1, rfl, hG1, R1, hF1, hz, .inr ⟨f, rfl, hg, Reads.chain_err HL5.out hrd⟩⟩
  obtain ⟨k, rfl, hst⟩ := HST.out
  replace HST := hidden hst
  clear hrd hf hz hv hst
  go_wp2_with fail
  go_step3
  go_wp2_with fail
  go_loopw [6] (fun t6 wr => Hid (ChSt B g L w R d lv s G #[.int .i64 (o1 : Int), .int .i64 (o2 : Int), .bool once] t6 wr)) (fun _ wr => lam g L.length wr)
  case atStart => exact HST
  case round =>
    obtain ⟨hGr, R2, hF, hZ, hst⟩ := hrel.out
    rcases hst with ⟨p, s1, rfl, hGd, hle, hsl, hcont⟩ | ⟨f, rfl, hGd, hrd⟩
    · replace HG := hidden hGr
      have HF := hidden hF
      have HZ := hidden hZ
      have HS := hidden hGd
      have HLAM := hidden hGd.lam
      have HLE := hidden hle
      have HSL := hidden hsl
      have HC := hidden hcont
      clear hrel hGr hF hZ hGd hle hsl hcont
      go_wp2_with fail
      refine (g_token HS.out).mono ?_
      rintro en x1 ⟨rfl, hb⟩
      replace HG := hidden (HG.out.since hb)
      replace HS := hidden (HS.out.below hb)
      replace HF := hidden (HF.out.trans (Fr.of_below _ hb))
      clear hb
      have z0 : x1.cell? ⟨G, 0, none⟩ = some (.int .i64 (o1 : Int)) := HG.out.at_ rfl
      obtain ⟨A, hA⟩ : ∃ A, A = s1.tok.place := ⟨_, rfl⟩
      rw [← hA]
      have HA := hidden hA
      clear hA
      obtain ⟨wo, rfl⟩ : ∃ wo, wo = wr := ⟨_, rfl⟩
      go_wp2_with fail
      go_loopw [6, 8] (fun t6 t8 wr => ∃ k : Nat, t6 = .int .i64 p ∧ o1 ≤ k ∧ k ≤ o2 + 1 ∧ t8 = .int .i64 (k : Int) ∧ Hid (Below x1.heap.size x1 wr) ∧ Hid (∀ j, o1 ≤ j → j < k → sees s1.tok (tSigns.getD j []) = false)) (fun _ t8 _ => o2 + 1 - (intOf t8).toNat)
      case atStart => exact ⟨o1, rfl, by omega, by omega, rfl, Below.refl _ _, fun j h1 h2 => by omega⟩
      case round =>
        obtain ⟨k, rfl, hk1, hk2, rfl, HBr, HNO⟩ := hrel
        have HGr := hidden (HG.out.since HBr.out)
        have HSr := hidden (HS.out.below HBr.out)
        have HFr := hidden (HF.out.trans (Fr.of_below _ HBr.out))
        have z1 : wr.cell? ⟨G, 1, none⟩ = some (.int .i64 (o2 : Int)) := HGr.out.at_ rfl
        clear z0
        by_cases hlt : k ≤ o2
        · have hlti : (k : Int) ≤ (o2 : Int) := by omega
          have c1 := xsign_at HSr.out.tabs (op := k) (by omega)
          obtain ⟨c, hc⟩ : ∃ c, c = tSigns.getD k [] := ⟨_, rfl⟩
          rw [← hc] at c1
          have HCC := hidden hc
          clear hc
          go_wp2_with fail
          cases hsc : s1.is c with
          | false =>
            have HSC := hidden hsc
            clear hsc
            refine (g_skip_no c HSr.out HSC.out).mono ?_
            rintro en x3 ⟨rfl, hb⟩
            have HB3 := hidden (below_then HBr.out hb)
            clear hb
            go_wp2_with fail
            go_roundw
            case rel => exact ⟨k + 1, rfl, by omega, by omega, by go_num, HB3, fun j h1 h2 => by
              rcases Nat.lt_or_ge j k with g1 | g1
              · exact HNO.out j h1 g1
              · rw [show j = k by omega, ← HCC.out]; exact HSC.out⟩
            case measure => simp [intOf]; omega
          | true =>
            have HSC := hidden hsc
            have HOP : Hid (opAt lv s1.tok = some k) := by
              show opAt lv s1.tok = some k
              rw [HAT.out]
              exact opFrom_hit _ _ _ hk1 (by omega) HNO.out (by rw [← HCC.out]; exact hsc)
            have HNX := hidden (is_some hsc)
            clear hsc
            refine (g_skip_yes c HSr.out HSC.out).mono ?_
            rintro en x3 ⟨rfl, hg, hf⟩
            have HG3 := hidden (HSr.out.held hf HGr.out (by decide) (by decide) (by decide))
            have HS3 := hidden hg
            have HF3 := hidden (HFr.out.trans hf)
            clear hg hf
            go_wp2_with fail
            refine (HIH.out _ _ _ _ HS3.out hd (by have := HNX.out; have := HLE.out; have := HM.out; omega)).mono ?_
            rintro en x4 ⟨v, hrd, R4, hf, hz, hv⟩
            have HRD := hidden hrd
            have HG4 := hidden (HS3.out.held hf HG3.out (by decide) (by decide) (by decide))
            have HF4 := hidden (HF3.out.trans hf)
            have HZ4 : Hid (R4.Z = R.Z) := hz.trans HZ.out
            clear hrd hf hz
            rcases hv with ⟨q, s2, rfl, rfl, hg⟩ | ⟨f, rfl, rfl, hg⟩
            · have HS4 := hidden hg
              have HSK : Hid (s2.l.length + s2.r.length + 1 ≤ s1.l.length + s1.r.length ∧ s2.r.length + 1 ≤ s1.r.length) := by
                have h1 := HRD.out.slack
                have e : s1.next.l = s1.l := rfl
                rw [e] at h1
                have h2 := HNX.out
                exact ⟨by omega, by omega⟩
              clear hg
              go_wp2_with fail
              refine wp_veil ?_
              go_wp2_with fail
              have HNW := hidden (now_new x4 [p, q] #[.int .i64 p, .int .i64 q] rfl (by simp) 2 rfl)
              have HBA : Hid (Below x4.heap.size x4 (x4.alloc (.cells #[.int .i64 p, .int .i64 q] 3))) := (Below.refl _ _).alloc (Nat.le_refl _) _
              refine (g_put (B' := x4.heap.size) ⟨5, some ⟨x4.heap.size, 0, none⟩, 2, [p, q], (k : Int), ⟨#[]⟩, (A : Int)⟩ A (HS4.out.below HBA.out) HNW.out (by have := HSK.out; have := HSL.out; have := HSZ.out; omega) (by simp) rfl).mono ?_
              rintro en x5 ⟨R5, hf2, hz2, hv2⟩
              have HG5 := hidden ((HS4.out.below HBA.out).held hf2 (HG4.out.since HBA.out) (by decide) (by decide) (by decide))
              have HF5 := hidden ((HF4.out.trans (Fr.of_below _ HBA.out)).trans hf2)
              have HZ5 : Hid (R5.Z = R.Z) := hz2.trans HZ4.out
              have z2 : x5.cell? ⟨G, 2, none⟩ = some (.bool once) := HG5.out.at_ rfl
              clear hf2 hz2
              rcases hv2 with ⟨k2, s3, hlay, rfl, hg⟩ | ⟨f, hlay, rfl, hg⟩
              · have HLY : Hid (lay (En 5 [p, q] (k : Int) ⟨#[]⟩ s1.tok.place) s2 = .ok ([k2], s3)) := by rw [← HA.out]; exact hlay
                have HGG := hidden hg
                have HL5' := hidden hg.lam
                have HLS := hidden (lay_slack hlay)
                clear hlay hg
                go_wp2_with fail
                refine wp_veil ?_
                cases once with
                | true =>
                  have HV2 : Hid (lv = 2) := by have h := HON.out.symm; show _; simp at h; exact h
                  go_wp2_with fail
                  try rw [Exit.noGoto_ret]
                  go_ret
                  exact ⟨_, HC.out _ (Reads.loop_once HV2.out HOP.out HRD.out HLY.out), R5, HF5.out, HZ5.out, .inl ⟨k2, s3, rfl, rfl, HGG.out⟩⟩
                | false =>
                  have HV2 : Hid (lv ≠ 2) := by have h := HON.out.symm; show _; simp at h; exact h
                  go_wp2_with fail
                  go_roundw
                  case rel => exact ⟨HG5.out, R5, HF5.out, HZ5.out, .inl ⟨k2, s3, rfl, HGG.out, by rw [HLS.out.2.1]; have := HSK.out; have := HLE.out; omega, by rw [HLS.out.2.1]; have := HLS.out.1; have := HSK.out; have := HSL.out; omega, fun v h => HC.out _ (Reads.loop_next HV2.out HOP.out HRD.out HLY.out h)⟩⟩
                  case measure => show lam g L.length x5 < lam g L.length _; rw [HL5'.out, HLAM.out, HLS.out.2.1]; have := HSK.out; omega
              · have HLY : Hid (lay (En 5 [p, q] (k : Int) ⟨#[]⟩ s1.tok.place) s2 = .error f) := by rw [← HA.out]; exact hlay
                have HGG := hidden hg
                have HL5' := hidden hg.lam
                clear hlay hg
                go_wp2_with fail
                refine wp_veil ?_
                cases once with
                | true =>
                  go_wp2_with fail
                  try rw [Exit.noGoto_ret]
                  go_ret
                  exact ⟨_, HC.out _ (Reads.loop_high HOP.out HRD.out HLY.out), R5, HF5.out, HZ5.out, .inr ⟨f, rfl, rfl, HGG.out⟩⟩
                | false =>
                  go_wp2_with fail
                  go_roundw
                  case rel => exact ⟨HG5.out, R5, HF5.out, HZ5.out, .inr ⟨f, rfl, HGG.out, HC.out _ (Reads.loop_high HOP.out HRD.out HLY.out)⟩⟩
                  case measure => show lam g L.length x5 < lam g L.length _; rw [HL5'.out, HLAM.out]; have := HSK.out; omega
            · have HS4 := hidden hg
              clear hg
              go_wp2_with fail
              refine wp_veil ?_
              go_wp2_with fail
              have HBA : Hid (Below x4.heap.size x4 (x4.alloc (.cells #[.int .i64 p, .int .i64 (-1)] 3))) := (Below.refl _ _).alloc (Nat.le_refl _) _
              refine (b_put _ _ _ _ _ (HS4.out.below HBA.out)).mono ?_
              rintro en x5 ⟨rfl, hb⟩
              have HB5 := hidden (below_then HBA.out hb)
              have HG5 := hidden (HG4.out.since HB5.out)
              have HS5 := hidden (HS4.out.below HB5.out)
              have HF5 := hidden (HF4.out.trans (Fr.of_below _ HB5.out))
              have HL5' := hidden HS5.out.lam
              have z2 : x5.cell? ⟨G, 2, none⟩ = some (.bool once) := HG5.out.at_ rfl
              clear hb
              go_wp2_with fail
              refine wp_veil ?_
              cases once with
              | true =>
                go_wp2_with fail
                try rw [Exit.noGoto_ret]
                go_ret
                exact ⟨_, HC.out _ (Reads.loop_err HOP.out HRD.out), R4, HF5.out, HZ4.out, .inr ⟨f, rfl, rfl, HS5.out⟩⟩
              | false =>
                go_wp2_with fail
                go_roundw
                case rel => exact ⟨HG5.out, R4, HF5.out, HZ4.out, .inr ⟨f, rfl, HS5.out, HC.out _ (Reads.loop_err HOP.out HRD.out)⟩⟩
                case measure => show lam g L.length x5 < lam g L.length _; rw [HL5'.out, HLAM.out]; have := HNX.out; omega
        · have hlti : ¬ (k : Int) ≤ (o2 : Int) := by omega
          have HOP : Hid (opAt lv s1.tok = none) := by
            show opAt lv s1.tok = none
            rw [HAT.out]
            exact opFrom_none _ _ (fun j h1 h2 => HNO.out j h1 (by omega))
          go_wp2_with fail
          try rw [Exit.noGoto_ret]
          go_ret
          exact ⟨_, HC.out _ (Reads.loop_end HOP.out), R2, HFr.out, HZ.out, .inl ⟨p, s1, rfl, rfl, HSr.out⟩⟩
    · replace HG := hidden hGr
      have HF := hidden hF
      have HZ := hidden hZ
      have HS := hidden hGd
      have HRD := hidden hrd
      clear hrel hGr hF hZ hGd hrd
      go_wp2_with fail
      refine (b_token HS.out).mono ?_
      rintro en x1 ⟨K, N, A, X, rfl, hb⟩
      replace HG := hidden (HG.out.since hb)
      replace HS := hidden (HS.out.below hb)
      replace HF := hidden (HF.out.trans (Fr.of_below _ hb))
      clear hb
      have z0 : x1.cell? ⟨G, 0, none⟩ = some (.int .i64 (o1 : Int)) := HG.out.at_ rfl
      obtain ⟨wo, rfl⟩ : ∃ wo, wo = wr := ⟨_, rfl⟩
      go_wp2_with fail
      go_loopw [6, 8] (fun t6 t8 wr => ∃ k : Nat, t6 = .int .i64 (-1) ∧ o1 ≤ k ∧ k ≤ o2 + 1 ∧ t8 = .int .i64 (k : Int) ∧ Hid (Below x1.heap.size x1 wr)) (fun _ t8 _ => o2 + 1 - (intOf t8).toNat)
      case atStart => exact ⟨o1, rfl, by omega, by omega, rfl, Below.refl _ _⟩
      case round =>
        obtain ⟨k, rfl, hk1, hk2, rfl, HBr⟩ := hrel
        have HGr := hidden (HG.out.since HBr.out)
        have HSr := hidden (HS.out.below HBr.out)
        have HFr := hidden (HF.out.trans (Fr.of_below _ HBr.out))
        have z1 : wr.cell? ⟨G, 1, none⟩ = some (.int .i64 (o2 : Int)) := HGr.out.at_ rfl
        clear z0
        by_cases hlt : k ≤ o2
        · have hlti : (k : Int) ≤ (o2 : Int) := by omega
          have c1 := xsign_at HSr.out.tabs (op := k) (by omega)
          obtain ⟨c, hc⟩ : ∃ c, c = tSigns.getD k [] := ⟨_, rfl⟩
          rw [← hc] at c1
          clear hc
          go_wp2_with fail
          refine (b_skip c HSr.out).mono ?_
          rintro en x3 ⟨rfl, hb⟩
          have HB3 := hidden (below_then HBr.out hb)
          clear hb
          go_wp2_with fail
          go_roundw
          case rel => exact ⟨k + 1, rfl, by omega, by omega, by go_num, HB3⟩
          case measure => simp [intOf]; omega
        · have hlti : ¬ (k : Int) ≤ (o2 : Int) := by omega
          go_wp2_with fail
          try rw [Exit.noGoto_ret]
          go_ret
          exact ⟨_, HRD.out, R2, HFr.out, HZ.out, .inr ⟨f, rfl, rfl, HSr.out⟩⟩
theorem expr_of {M : Nat} (h : CChain B g L 0 M) : CExpr B g L M := by
  intro w R d s H hd hM
  have HC := hidden (h w R d s H hd hM)
  clear h H
  go_enter Tryz.func65, Tryz.ntmps65
  go_wp2_with fail
  refine HC.out.mono ?_
  rintro en w2 ⟨v, hrd, hEn⟩
  obtain ⟨k9, rfl⟩ := hEn.val
  have HEN := hidden hEn
  have HRD := hidden hrd
  clear hEn hrd
  go_wp2_with fail
  go_ret
  exact ⟨_, HRD.out, HEN.out⟩
theorem chains_of {M : Nat} (h : CFront B g L M) : CExpr B g L M :=
  expr_of (chain_of (by decide) (chain_of (by decide) (chain_of (by decide) (chain_of (by decide) (chain_of (by decide) (chain5_of h))))))
/-- what Expr reads, of whatever is left -/
theorem all_of (B g : Nat) (L : List Tk) : ∀ M, CFront B g L M ∧ CExpr B g L M
  | 0 => ⟨fun w R d s H _ h => by have := H.some; omega, fun w R d s H _ h => by have := H.some; omega⟩
  | M + 1 => by
    obtain ⟨h1, h2⟩ := all_of B g L M
    have h3 := fronted_of h2 h1
    exact ⟨h3, chains_of h3⟩
theorem expr_good {w : World} {R : Bx} {d : Nat} {s : PS} (H : Good B g L w R d s) (hd : d ≤ 200) :
    Calls Tryz.prog 65 #[.pointer (some ⟨g, 0, none⟩)] w (Post B g L (.chain 0) w R d s) := (all_of B g L s.r.length).2 w R d s H hd (Nat.le_refl _)
end Go.Proofs.YtagacfcpepoaoaaGreatDoor
