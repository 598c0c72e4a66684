/- RefList, RefUnary, in one text. -/
import Derived.Test.YtagacfcpepoaoaaGreatDoorQOne
import Derived.Test.YtagacfcpepoaoaaGreatDoorParseLeaf
namespace Go.Proofs.YtagacfcpepoaoaaGreatDoor
open Go.RowKit
set_option linter.unusedVariables false

variable {B g : Nat} {L : List Tk} {w w' : World} {R R' : Bx} {d : Nat} {o o1 : Except Flt PS}
def argsF (d : Nat) : PS → Nat → Option Out := fun s1 n => if s1.is rp then some (.ok ([], s1)) else rd n (.args []) d s1
/-- the arguments so far -/
def QLst (B g : Nat) (L : List Tk) (M : Nat) (w0 : World) (R0 : Bx) (d : Nat) (s : PS) (t3 : Value) (wr : World) : Prop :=
  ∃ (o1 : Except Flt PS) (R1 : Bx) (acc : List Int), QPre B g L w0 R0 (d + 1) wr R1 o1 t3 acc ∧ acc.length ≤ 9 ∧ Lim o1 (L.length - 1) (M - 1) ∧ Grow (.ok s) o1 ∧ (∀ s1, o1 = .ok s1 → acc.length ≤ 8) ∧
    ∀ u, Does o1 (afterF (d + 1) acc) u → Does (.ok s.next) (argsF (d + 1)) u
/-- a list, and what is left -/
def endL (acc : List Int) : Except Flt PS → Out
  | .ok s => .ok (acc, s)
  | .error f => .error f
theorem toO_endL (acc : List Int) (o : Except Flt PS) : toO (endL acc o) = o := by cases o <;> rfl
theorem endL_eq {acc : List Int} {o : Except Flt PS} : ∀ p s, endL acc o = .ok (p, s) → acc = p := fun p s e => by
  cases o with
  | ok s' => injection e with e; injection e
  | error f => cases e
theorem Does.need_endL {acc : List Int} : Does o (fun s2 _ => Go.Proofs.YtagacfcpepoaoaaGreatDoor.need rp s2 fun s3 => some (.ok (acc, s3))) (endL acc (needO rp o)) := by
  refine Does.need (b := rp) (G := fun s3 _ => some (.ok (acc, s3))) ?_
  cases needO rp o with
  | ok s => exact Ev.const
  | error f => rfl
theorem Does.list_left {v : Out} (h : Does o (listF d) v) (n m : Nat) (hl : Lim o n m) : Lim (toO v) n m := by
  cases o with
  | error f => rw [show v = _ from h]; exact Lim.err
  | ok s =>
    obtain ⟨n0, hn⟩ := h
    have h1 := hn n0 (Nat.le_refl _)
    have h0 := hl s rfl
    unfold listF Go.Proofs.YtagacfcpepoaoaaGreatDoor.need at h1
    split at h1
    · rename_i hlp
      have hp := is_some hlp
      have e0 : s.next.l = s.l := rfl
      split at h1
      · injection h1 with h1; subst h1; exact Lim.err
      · rcases go_ok h1 with ⟨e, _, rfl⟩ | ⟨l, s2, h2, h3⟩
        · exact Lim.err
        · have hs2 : s2.l.length + s2.r.length ≤ s.next.l.length + s.next.r.length ∧ s2.r.length ≤ s.next.r.length := by
            split at h2
            · injection h2 with h2; injection h2 with h2; injection h2 with _ h2; subst h2; exact ⟨Nat.le_refl _, Nat.le_refl _⟩
            · have h5 := Reads.slack ⟨n0, h2⟩
              exact ⟨h5.1, h5.2.1⟩
          rw [e0] at hs2
          split at h3
          · rename_i hrp
            have hq := is_some hrp
            have e2 : s2.next.l = s2.l := rfl
            injection h3 with h3
            subst h3
            intro s' e
            injection e with e
            subst e
            rw [e2]
            exact ⟨by omega, by omega⟩
          · injection h3 with h3; subst h3; exact Lim.err
    · injection h1 with h1; subst h1; exact Lim.err
/-- what list tells -/
def QListed (B g : Nat) (L : List Tk) (w : World) (R : Bx) (d : Nat) (o : Except Flt PS) (en : Ending) (w' : World) : Prop :=
  ∃ (v : Out) (R' : Bx) (x : Value) (acc : List Int), en = .returned x ∧ Does o (listF d) v ∧ QPre B g L w R d w' R' (toO v) x acc ∧ acc.length ≤ 9 ∧ Grow o (toO v) ∧ ∀ p s, v = .ok (p, s) → acc = p
set_option maxRecDepth 100000 in
set_option maxHeartbeats 20000000 in
theorem qlist_of {M : Nat} (hE : ∀ m, m < M → QExprC B g L m) (H : QAny B g L w R d o) (hd : ∀ s, o = .ok s → d ≤ 200) (hd9 : d ≤ 1000) (hl : Lim o L.length M) : Calls Tryz.prog 96 #[.pointer (some ⟨g, 0, none⟩)] w (QListed B g L w R d o) := by
  have HS := hidden ((QRun.start H).pre H)
  have HE := hidden hE
  have HDD := hidden hd
  have HD9 := hidden hd9
  have HL := hidden hl
  have hfd := field_at
  obtain ⟨tk, tn, ta, tx, hta, hcall⟩ := q_now' H
  have HTA := hidden hta
  have HC := hidden hcall
  clear H hE hd hl hta hcall hd9
  go_enter Tryz.func96, Tryz.ntmps96
  rw [veil 14]
  go_wp2_with fail
  refine HC.out.mono ?_
  rintro en w1 ⟨rfl, hb⟩
  replace HS := hidden (HS.out.below hb)
  clear hb HC
  go_wp2_with fail
  refine (q_must lp HS.out.any).mono ?_
  rintro en w2 ⟨⟨x2, rfl⟩, ha, hf⟩
  replace HS := hidden (HS.out.step ha hf (fun _ h => h) (Grow.need _))
  clear ha hf
  go_wp2_with fail
  refine (q_opens ta HS.out.any (fun s hs => HD9.out)).mono ?_
  rintro en w3 ⟨⟨x3, rfl⟩, ha, hf⟩
  replace HS := hidden (HS.out.step ha hf (fun _ h => h) (Grow.open_ _ _))
  clear ha hf
  obtain ⟨o2, ho2⟩ : ∃ o2, o2 = openO d ta (needO lp o) := ⟨_, rfl⟩
  rw [← ho2] at HS
  have HO2 := hidden ho2
  clear ho2
  cases o2 with
  | error f =>
    obtain ⟨e, c5, he⟩ := q_err5 HS.out.any
    have hen : (e == 0) = false := by simpa using he
    clear he
    go_wp2_with fail
    refine (q_must rp HS.out.any).mono ?_
    rintro en wa ⟨⟨xa, rfl⟩, ha, hf⟩
    replace HS := hidden (HS.out.step ha hf (fun _ h => h) (Grow.need _))
    clear ha hf
    obtain ⟨dd, V, c2, f2, hV, ha, hf⟩ := QAny.close HS.out.any (HD9.out)
    obtain ⟨W, hW⟩ : ∃ W, W = wa.setCell ⟨g, 2, none⟩ (.int .i64 V) := ⟨_, rfl⟩
    rw [← hW] at ha hf
    replace HS := hidden (HS.out.step ha hf (fun _ h => h) (Grow.refl _))
    clear ha hf
    go_wp2_with fail
    rw [← hV, ← hW]
    clear hV hW c2 f2
    refine wp_veil ?_
    go_wp2_with fail
    go_ret
    exact ⟨.error f, _, _, [], rfl, Does.list_bad (fun s hs => (HTA.out s hs).2.2.1) HO2.out.symm, HS.out, by simp, Grow.err, fun p s e => by cases e⟩
  | ok s2 =>
    have c5 := q_ok5 HS.out.any
    obtain ⟨hn, hd2⟩ := qopen_ok HO2.out.symm
    obtain ⟨s, rfl, ha, rfl⟩ := qneed_ok hn
    obtain ⟨hM, hN, hl1⟩ := HL.out.next_lt ha
    have HA := hidden ha
    have HD2 := hidden hd2
    have HL1 := hidden hl1
    have HM := hidden hM
    clear hn ha hd2 hl1 hM hN
    go_wp2_with fail
    refine (q_sees rp HS.out.any).mono ?_
    rintro en w4 ⟨c, rfl, hb, hc⟩
    replace HS := hidden (HS.out.below hb)
    clear hb c5
    rcases hc with ⟨rfl, s', hs', hb⟩ | ⟨rfl, hb⟩
    · injection hs' with hs'
      subst hs'
      have HB := hidden hb
      clear hb
      go_wp2_with fail
      refine (q_must rp HS.out.any).mono ?_
      rintro en wa ⟨⟨xa, rfl⟩, ha, hf⟩
      replace HS := hidden (HS.out.step ha hf (fun _ h => h) (Grow.need _))
      clear ha hf
      obtain ⟨dd, V, c2, f2, hV, ha, hf⟩ := QAny.close HS.out.any (HD9.out)
      obtain ⟨W, hW⟩ : ∃ W, W = wa.setCell ⟨g, 2, none⟩ (.int .i64 V) := ⟨_, rfl⟩
      rw [← hW] at ha hf
      replace HS := hidden (HS.out.step ha hf (fun _ h => h) (Grow.refl _))
      clear ha hf
      go_wp2_with fail
      rw [← hV, ← hW]
      clear hV hW c2 f2
      refine wp_veil ?_
      go_wp2_with fail
      go_ret
      refine ⟨endL [] (needO rp (.ok s.next)), _, _, [], rfl, ?_, by rw [toO_endL]; exact HS.out, by simp, by rw [toO_endL]; exact Grow.next.trans (Grow.need _), endL_eq⟩
      exact Does.list_ok HA.out HD2.out (v1 := .ok ([], s.next)) (Ev.ite_pos HB.out Ev.const) (fun p s' e => by injection e with e; injection e) Does.need_endL
    · have HB : Hid (s.next.is rp = false) := hb _ rfl
      clear hb
      go_wp2_with fail
      refine (HE.out (M - 1) (by have := HM.out; omega) _ _ _ _ HS.out.any (fun _ _ => by have := HD2.out; omega) (HL1.out.mono (by omega) (Nat.le_refl _))).mono ?_
      rintro en w5 ⟨v, R5, hdo, hgot⟩
      obtain rfl := hgot.en
      have HV := hidden (HS.out.then_ hgot.run hgot.tell.grow)
      have HDO := hidden hdo
      have HT := hidden hgot.tell
      obtain ⟨k, hk⟩ : ∃ k, k = kidO v := ⟨_, rfl⟩
      rw [← hk]
      have HK := hidden hk
      clear hdo hgot hk
      go_wp2_with (at_builtin; refine wpList_kid rfl (.tmp 24) (.tmp 27) rfl w.heap.size w5 (.slice none 0 0) [] k rfl rfl HV.out.now HV.out.fr.size (by simp) ?_; intro v3 w6 h3 hg3 hw3; obtain ⟨va, vc, hv3⟩ := own_shape5 h3; obtain ⟨R3, hr3⟩ := HV.out.push (k := k) (by rw [HK.out]; exact HT.out.kidIn) h3 hg3 hw3; have HR3 := hidden hr3; clear hr3 h3 hg3 hw3; rw [List.nil_append, List.length_singleton] at hv3; subst hv3)
      have HQ0 : Hid (QLst B g L M w R d s (.slice va 1 vc) w6) := by
        refine ⟨_, R3, [k], HR3.out, by simp, Does.left_rd HDO.out _ _ HL1.out, Grow.next.trans HT.out.grow, fun _ _ => by simp, fun u hu => ?_⟩
        rw [HK.out] at hu
        exact Does.args_first HB.out HDO.out hu
      clear HS HV HR3
      go_loopw [3] (fun t3 wr => Hid (QLst B g L M w R d s t3 wr)) (fun _ wr => qlam g L.length wr)
      case atStart => exact HQ0
      case round =>
        obtain ⟨o1, R1, acc, hpre, h9, hlim, hgr, h8, hcont⟩ := hrel.out
        have HS := hidden hpre
        obtain ⟨la, lc, hv⟩ := own_shape5 hpre.now
        obtain ⟨A, hA⟩ : ∃ A, A = acc.length := ⟨_, rfl⟩
        rw [← hA] at hv
        subst hv
        have HAC := hidden hA
        have HLM := hidden hlim
        have HGR := hidden hgr
        have H8 := hidden h8
        have H9 := hidden h9
        have HCT := hidden hcont
        clear hrel hpre h9 hlim hgr h8 hcont hA HQ0
        obtain ⟨wo, hwo⟩ : ∃ wo, wo = wr := ⟨_, rfl⟩
        have HWO := hidden hwo
        clear hwo
        go_wp2_with fail
        refine (q_eats comma HS.out.any).mono ?_
        rintro en w7 ⟨c, o', rfl, ha, hf, hc⟩
        rcases hc with ⟨rfl, s1, hs, hb, ho⟩ | ⟨rfl, ho, hb⟩
        · subst hs
          subst ho
          have HLAM : Hid (qlam g L.length wo = s1.r.length) := by rw [HWO.out]; exact QGood.qlam HS.out.any
          replace HS := hidden (HS.out.step ha hf (fun _ h => h) Grow.next)
          have HB2 := hidden hb
          have HNX := hidden (is_some hb)
          clear ha hf hb
          have hA8 : A ≤ 8 := by have := H8.out s1 rfl; have := HAC.out; omega
          by_cases h8e : A = 8
          · subst h8e
            obtain ⟨tk2, tn2, ta2, tx2, hta2, hcall2⟩ := q_now' HS.out.any
            have HTA2 := hidden hta2
            have HC2 := hidden hcall2
            clear hta2 hcall2
            go_wp2_with fail
            refine HC2.out.mono ?_
            rintro en w8 ⟨rfl, hb⟩
            replace HS := hidden (HS.out.below hb)
            clear hb HC2
            go_wp2_with fail
            refine (q_fail 3 ta2 (by decide) HS.out.any).mono ?_
            rintro en w9 ⟨⟨x9, rfl⟩, ha, hf⟩
            replace HS := hidden (HS.out.step ha hf (fun _ h => h) (Grow.fail _ _))
            clear ha hf
            replace HS : Hid (QPre B g L w R (d + 1) w9 R1 (.error (3, ta2)) (.slice la 8 lc) acc) := HS
            obtain ⟨e, c5, he⟩ := q_err5 HS.out.any
            have hen : (e == 0) = false := by simpa using he
            clear he
            go_wp2_with fail
            go_roundw
            case rel =>
              refine ⟨_, R1, acc, HS.out, H9.out, Lim.err, Grow.err, (fun _ e => by cases e), fun u hu => HCT.out u ?_⟩
              rw [show u = _ from hu, (HTA2.out _ rfl).2.2.1]
              exact Does.after_long HB2.out HAC.out.symm
            case measure =>
              have h1 : qlam g L.length w9 = 0 := QBad.qlam HS.out.any
              show qlam g L.length w9 < qlam g L.length _
              rw [h1, ← HWO.out, HLAM.out]
              have := HNX.out
              omega
          · have h8i : ((A : Int) == 8) = false := by simp; omega
            have c5 := q_ok5 HS.out.any
            go_wp2_with fail
            have hlm2 := HLM.out s1 rfl
            have HLM2 := hidden hlm2
            clear hlm2
            refine (HE.out (M - 1) (by have := HM.out; omega) _ _ _ _ HS.out.any (fun _ _ => by have := HD2.out; omega) (HLM.out.next_le HB2.out |>.mono (by omega) (by omega))).mono ?_
            rintro en w8 ⟨v2, R8, hdo, hgot⟩
            obtain rfl := hgot.en
            have HV := hidden (HS.out.then_ hgot.run hgot.tell.grow)
            have HDO2 := hidden hdo
            have HT2 := hidden hgot.tell
            obtain ⟨k2, hk⟩ : ∃ k2, k2 = kidO v2 := ⟨_, rfl⟩
            rw [← hk]
            have HK2 := hidden hk
            clear hdo hgot hk c5
            have HA7 : Hid (acc.length ≤ 7) := by show _ ≤ _; have := HAC.out; omega
            go_wp2_with (at_builtin; refine wpList_kid rfl (.tmp 45) (.tmp 48) rfl w.heap.size w8 (.slice la A lc) acc k2 rfl rfl HV.out.now HV.out.fr.size (by have := HA7.out; omega) ?_; intro v3 w9 h3 hg3 hw3; obtain ⟨va, vc, hv3⟩ := own_shape5 h3; obtain ⟨R3, hr3⟩ := HV.out.push (k := k2) (by rw [HK2.out]; exact HT2.out.kidIn) h3 hg3 hw3; have HR3 := hidden hr3; clear hr3 h3 hg3 hw3; rw [List.length_append, List.length_singleton] at hv3; subst hv3)
            have HLT2 : Hid (Lim (toO v2) (L.length - 1) (s1.next.r.length)) := Does.left_rd HDO2.out _ _ (fun s' e => by injection e with e; subst e; have h1 := HLM2.out; have h2 := HNX.out; have h3 : s1.next.l = s1.l := rfl; rw [h3]; exact ⟨by omega, by omega⟩)
            go_roundw
            case rel =>
              refine ⟨_, R3, acc ++ [k2], HR3.out, by rw [List.length_append, List.length_singleton]; have := HA7.out; omega, HLT2.out.mono (Nat.le_refl _) (by have := HLM2.out; have := HNX.out; omega), (HGR.out.trans Grow.next).trans HT2.out.grow, fun _ _ => by rw [List.length_append, List.length_singleton]; have := HA7.out; omega, fun u hu => HCT.out u ?_⟩
              rw [HK2.out] at hu
              exact Does.after_next HB2.out (by have := HA7.out; omega) HDO2.out hu
            case measure =>
              show qlam g L.length w9 < qlam g L.length _
              rw [← HWO.out, HLAM.out]
              have h1 := HNX.out
              have h2 := HR3.out.any
              have h3 := HLT2.out
              cases hv : toO v2 with
              | error f => rw [hv] at h2; rw [QBad.qlam h2]; omega
              | ok s3 => rw [hv] at h2 h3; rw [QGood.qlam h2]; have := (h3 s3 rfl).2; omega
        · rw [ho] at ha
          replace HS := hidden (HS.out.step ha hf (fun _ h => h) (Grow.refl _))
          obtain ⟨v, hv1, hv2, hv3⟩ := Does.after_end (d := d + 1) (acc := acc) hb
          have HV1 := hidden (HCT.out v hv1)
          have HV2 := hidden hv2
          have HV3 := hidden hv3
          clear ha hf hb hv1 hv2 hv3 ho
          go_wp2_with fail
          refine (q_must rp HS.out.any).mono ?_
          rintro en wa ⟨⟨xa, rfl⟩, ha, hf⟩
          replace HS := hidden (HS.out.step ha hf (fun _ h => h) (Grow.need _))
          clear ha hf
          obtain ⟨dd, V, c2, f2, hV, ha, hf⟩ := QAny.close HS.out.any (HD9.out)
          obtain ⟨W, hW⟩ : ∃ W, W = wa.setCell ⟨g, 2, none⟩ (.int .i64 V) := ⟨_, rfl⟩
          rw [← hW] at ha hf
          replace HS := hidden (HS.out.step ha hf (fun _ h => h) (Grow.refl _))
          clear ha hf
          go_wp2_with fail
          rw [← hV, ← hW]
          clear hV hW c2 f2
          refine wp_veil ?_
          go_wp2_with fail
          go_ret
          refine ⟨endL acc (needO rp o1), _, _, acc, rfl, ?_, by rw [toO_endL]; exact HS.out, H9.out, by rw [toO_endL]; exact HGR.out.trans (Grow.need _), endL_eq⟩
          refine Does.list_ok HA.out HD2.out (v1 := v) HV1.out HV3.out ?_
          rw [HV2.out]
          exact Does.need_endL
set_option maxRecDepth 100000 in
theorem qcall_of {M : Nat} (nm : ByteArray) (a : Nat) (hE : ∀ m, m < M → QExprC B g L m) (H : QAny B g L w R d o) (hd : ∀ s, o = .ok s → d ≤ 200) (hd9 : d ≤ 1000) (hl : Lim o L.length M) (hl2 : Lim o L.length L.length) : Calls Tryz.prog 80 #[.pointer (some ⟨g, 0, none⟩), .string nm, .int .i64 (a : Int)] w (QDone B g L w R d o (fun s n => rd n (.call nm a) d s)) := by
  have HL := hidden hl2
  have HB := hidden H.old
  have HLS := hidden (qlist_of hE H hd hd9 hl)
  clear H hE hd hl hd9 hl2
  go_enter Tryz.func80, Tryz.ntmps80
  go_wp2_with fail
  refine HLS.out.mono ?_
  rintro en w1 ⟨v, R1, x, acc, rfl, hdo, hpre, h9, hgr, hq⟩
  obtain ⟨la, lc, hv⟩ := own_shape5 hpre.now
  subst hv
  have HDO := hidden hdo
  have HPR := hidden hpre
  have H9 := hidden h9
  have HGR := hidden hgr
  have HQ := hidden hq
  clear hdo hpre h9 hgr hq HLS
  have HLV : Hid (Lim (toO v) L.length L.length) := HDO.out.list_left _ _ HL.out
  go_wp2_with fail
  refine (HPR.out.lay 11 0 nm a HB.out HLV.out (by have := H9.out; omega)).mono ?_
  rintro en w2 ⟨u, R2, hdu, hgot, _⟩
  obtain rfl := hgot.en
  have HDU := hidden hdu
  have HG := hidden hgot
  clear hdu hgot
  go_wp2_with fail
  go_ret
  exact ⟨u, R2, Does.call HDO.out HQ.out HDU.out, ⟨HG.out.run, rfl, HG.out.tell.back HGR.out⟩⟩
end Go.Proofs.YtagacfcpepoaoaaGreatDoor

namespace Go.Proofs.YtagacfcpepoaoaaGreatDoor
open Go.RowKit
set_option linter.unusedVariables false

variable {B g : Nat} {L : List Tk} {w0 w w' : World} {R0 R R' : Bx} {d d' : Nat} {o o' o1 : Except Flt PS} {G : Nat} {K X N A : Value}
/-- .. beside a token that was kept -/
structure QTok (B g : Nat) (L : List Tk) (w0 : World) (R0 : Bx) (d : Nat) (w : World) (R : Bx) (o : Except Flt PS) (G : Nat) (K X N A : Value) : Prop extends QRun B g L w0 R0 d w R o where
  tok : Held w G 49 #[K, X, N, A]
theorem QTok.step (H : QTok B g L w0 R0 d w R o G K X N A) (hA : QAny B g L w' R' d' o') (F : Fr g w w' R R') (hz : ∀ k, R.Z k → R'.Z k) : QTok B g L w0 R0 d' w' R' o' G K X N A :=
  ⟨H.toQRun.step hA F hz, H.any.held F H.tok (by decide) (by decide) (H.any.vn_ne H.tok (by decide))⟩
theorem QTok.then_ (H : QTok B g L w0 R0 d w R o G K X N A) (K' : QRun B g L w R d' w' R' o') : QTok B g L w0 R0 d' w' R' o' G K X N A := H.step K'.any K'.fr K'.z
theorem QTok.below (H : QTok B g L w0 R0 d w R o G K X N A) (hb : Below w.heap.size w w') : QTok B g L w0 R0 d w' R o G K X N A := H.step (H.any.below hb) (Fr.of_below R hb) (fun _ h => h)
theorem QRun.tok (H : QRun B g L w0 R0 d w R o) (K X N A : Value) : QTok B g L w0 R0 d (w.alloc (.cells #[K, X, N, A] 49)) R o w.heap.size K X N A :=
  ⟨H.below ((Below.refl _ _).alloc (Nat.le_refl _) _), Held.new _ _ _⟩
def QUnaryC (B g : Nat) (L : List Tk) (M : Nat) : Prop := ∀ w R d o, QAny B g L w R d o → (∀ s, o = .ok s → d ≤ 200) → Lim o L.length M → Calls Tryz.prog 100 #[.pointer (some ⟨g, 0, none⟩)] w (QDone B g L w R d o (fun s n => rd n .front d s))
theorem text_bang {s : PS} (h : s.is minus = true ∨ s.is bang = true) : (s.tok.text == bang) = !(s.is minus) := by
  unfold PS.is sees at h ⊢
  simp only [Bool.and_eq_true, beq_iff_eq] at h
  rcases h with ⟨h1, h2⟩ | ⟨h1, h2⟩
  · rw [h2, h1]; decide
  · rw [h2, h1]; decide
set_option maxRecDepth 100000 in
set_option maxHeartbeats 20000000 in
theorem qunary_of {M : Nat} (hU : ∀ m, m < M → QUnaryC B g L m) (hI : ∀ w R d o, QAny B g L w R d o → (∀ s, o = .ok s → d ≤ 200) → Lim o L.length M → Calls Tryz.prog 106 #[.pointer (some ⟨g, 0, none⟩)] w (QDone B g L w R d o (fun s n => rd n .idx d s))) : QUnaryC B g L M := by
  intro w R d o H hd hl
  have HQ := hidden (QRun.start H)
  have HU := hidden hU
  have HI := hidden hI
  have HDD := hidden hd
  have HL := hidden hl
  obtain ⟨tk, tn, ta, tx, hta, hcall⟩ := q_now' H
  have HTA := hidden hta
  have HC := hidden hcall
  clear H hU hd hl hta hcall hI
  go_enter Tryz.func100, Tryz.ntmps100
  rw [veil 2, veil 5, veil 10, veil 13]
  go_wp2_with fail
  refine HC.out.mono ?_
  rintro en w1 ⟨rfl, hb⟩
  have HS := hidden ((HQ.out.below hb).tok (.int .i64 (tk : Int)) (.string tx) (.int .i64 (tn : Int)) (.int .i64 (ta : Int)))
  clear hb HC HQ
  go_wp2_with fail
  obtain ⟨W0, hW0⟩ : ∃ W0, W0 = w1.alloc (.cells #[.int .i64 (tk : Int), .string tx, .int .i64 (tn : Int), .int .i64 (ta : Int)] 49) := ⟨_, rfl⟩
  obtain ⟨G, hG⟩ : ∃ G, G = w1.heap.size := ⟨_, rfl⟩
  rw [← hW0, ← hG] at HS ⊢
  clear hW0 hG
  refine wp_veil ?_
  go_wp2_with fail
  refine (q_sees minus HS.out.any).mono ?_
  rintro en w2 ⟨c, rfl, hb, hc⟩
  replace HS := hidden (HS.out.below hb)
  clear hb
  rcases hc with ⟨rfl, s, rfl, hb⟩ | ⟨rfl, hb⟩
  · have HB := hidden hb
    have HSM : Hid (s.is minus = true ∨ s.is bang = true) := by show _ ∨ _; simp [HB.out]
    have HB1 := hidden hb
    clear hb
    obtain ⟨hM, hN, hl1⟩ := HL.out.next_lt HB1.out
    have HL1 := hidden hl1
    have HM := hidden hM
    clear hl1 hM hN
    obtain ⟨p, c1, f1, hp, hg, hf⟩ := QGood.take (s := s) HS.out.any (sees_nz HB1.out)
    obtain ⟨W, hW⟩ : ∃ W, W = w2.setCell ⟨g, 1, none⟩ (.int .i64 ((p : Int) + 1)) := ⟨_, rfl⟩
    rw [← hW] at hg hf
    replace HS := hidden (HS.out.step (o' := .ok s.next) hg hf (fun _ h => h))
    clear hg hf
    go_wp2_with fail
    rw [← hW]
    clear hW c1 f1
    have z3 : W.cell? ⟨G, 3, none⟩ = some (.int .i64 (ta : Int)) := HS.out.tok.at_ rfl
    refine wp_veil ?_
    go_wp2_with fail
    refine (q_opens ta HS.out.any (fun _ _ => by have := HDD.out s rfl; omega)).mono ?_
    rintro en w5 ⟨⟨x5, rfl⟩, ha, hf⟩
    replace HS := hidden (HS.out.step ha hf (fun _ h => h))
    clear ha hf z3
    by_cases hd2 : 200 ≤ d
    · rw [openO_no hd2] at HS
      obtain ⟨e, c5, he⟩ := q_err5 HS.out.any
      have hen : (e != 0) = true := by simpa using he
      clear he
      have HD2 := hidden hd2
      clear hd2
      go_wp2_with fail
      go_ret
      refine ⟨.error (4, ta), _, ?_, ⟨⟨HS.out.any, HS.out.fr, HS.out.z⟩, rfl, QTell.err⟩⟩
      rw [(HTA.out s rfl).2.2.1]
      exact Does.front_deep HSM.out HD2.out
    · rw [openO_yes hd2] at HS
      have c5 := q_ok5 HS.out.any
      have HD2 := hidden hd2
      clear hd2
      go_wp2_with fail
      refine (HU.out (M - 1) (by have := HM.out; omega) _ _ _ _ HS.out.any (fun _ _ => by have := HD2.out; omega) (HL1.out.mono (by omega) (Nat.le_refl _))).mono ?_
      rintro en w6 ⟨v, R6, hdo, hgot⟩
      obtain rfl := hgot.en
      replace HS := hidden (HS.out.then_ hgot.run)
      have HDO := hidden hdo
      have HT := hidden hgot.tell
      have HLV := hidden (Does.left_rd hdo _ _ HL1.out)
      obtain ⟨k, hk⟩ : ∃ k, k = kidO v := ⟨_, rfl⟩
      rw [← hk]
      have HK := hidden hk
      clear hdo hgot hk c5
      obtain ⟨dd, V, c2, f2, hV, ha, hf⟩ := QAny.close HS.out.any (by have := HD2.out; omega)
      obtain ⟨W7, hW7⟩ : ∃ W7, W7 = w6.setCell ⟨g, 2, none⟩ (.int .i64 V) := ⟨_, rfl⟩
      rw [← hW7] at ha hf
      replace HS := hidden (HS.out.step ha hf (fun _ h => h))
      clear ha hf
      go_wp2_with fail
      rw [← hV, ← hW7]
      clear hV hW7 c2 f2
      refine wp_veil ?_
      have z1 : W7.cell? ⟨G, 1, none⟩ = some (.string tx) := HS.out.tok.at_ rfl
      have hX2 : (tx.toList == (⟨bang.toArray⟩ : ByteArray).toList) = !(s.is minus) := by rw [(HTA.out s rfl).2.2.2, txt_eq]; exact text_bang HSM.out
      have hX3 : (tx.toList == [33]) = !(s.is minus) := by rw [← hX2, show (⟨bang.toArray⟩ : ByteArray).toList = [33] by rw [ByteArray.toList_eq]; rfl]
      clear hX2
      have z3 : (W7.alloc (.cells #[.int .i64 k] 3)).cell? ⟨G, 3, none⟩ = some (.int .i64 (ta : Int)) := (HS.out.below ((Below.refl _ _).alloc (Nat.le_refl _) _)).tok.at_ rfl
      have z3' : W7.cell? ⟨G, 3, none⟩ = some (.int .i64 (ta : Int)) := HS.out.tok.at_ rfl
      cases hm : s.is minus with
      | true =>
        replace hX3 : (tx.toList == [33]) = false := by rw [hX3, hm]; rfl
        have HMM := hidden hm
        clear hm
        go_wp2_with fail
        refine wp_veil ?_
        go_wp2_with fail
        refine (lay_new 6 [k] 0 ⟨#[]⟩ ta #[.int .i64 k] rfl 1 rfl HS.out.any (fun j hj => by rw [List.mem_singleton.1 hj, HK.out]; exact HT.out.kidIn) (HLV.out.self.mono (by omega) (by omega)) (by simp)).mono ?_
        rintro en w8 ⟨u, R8, hdu, hgot, _⟩
        obtain rfl := hgot.en
        have HDU := hidden hdu
        have HG := hidden hgot
        clear hdu hgot
        go_wp2_with fail
        go_ret
        exact ⟨u, R8, Does.front_sign HSM.out HD2.out HDO.out (by rw [HMM.out]; rw [← (HTA.out s rfl).2.2.1, ← HK.out]; exact HDU.out), ⟨HS.out.toQRun.then_ HG.out.run, rfl, HG.out.tell.back (Grow.next.trans HT.out.grow)⟩⟩
      | false =>
        replace hX3 : (tx.toList == [33]) = true := by rw [hX3, hm]; rfl
        have HMM := hidden hm
        clear hm
        go_wp2_with fail
        refine wp_veil ?_
        go_wp2_with fail
        refine (lay_new 7 [k] 0 ⟨#[]⟩ ta #[.int .i64 k] rfl 1 rfl HS.out.any (fun j hj => by rw [List.mem_singleton.1 hj, HK.out]; exact HT.out.kidIn) (HLV.out.self.mono (by omega) (by omega)) (by simp)).mono ?_
        rintro en w8 ⟨u, R8, hdu, hgot, _⟩
        obtain rfl := hgot.en
        have HDU := hidden hdu
        have HG := hidden hgot
        clear hdu hgot
        go_wp2_with fail
        go_ret
        exact ⟨u, R8, Does.front_sign HSM.out HD2.out HDO.out (by rw [HMM.out]; rw [← (HTA.out s rfl).2.2.1, ← HK.out]; exact HDU.out), ⟨HS.out.toQRun.then_ HG.out.run, rfl, HG.out.tell.back (Grow.next.trans HT.out.grow)⟩⟩
  · have HNM : Hid (∀ s, o = .ok s → s.is minus = false) := hb
    clear hb
    go_wp2_with fail
    refine (q_sees bang HS.out.any).mono ?_
    rintro en w3 ⟨c, rfl, hb, hc⟩
    replace HS := hidden (HS.out.below hb)
    clear hb
    rcases hc with ⟨rfl, s, rfl, hb⟩ | ⟨rfl, hb⟩
    · have HB := hidden hb
      have HSM : Hid (s.is minus = true ∨ s.is bang = true) := by show _ ∨ _; simp [HB.out]
      have HB1 := hidden hb
      clear hb
      obtain ⟨hM, hN, hl1⟩ := HL.out.next_lt HB1.out
      have HL1 := hidden hl1
      have HM := hidden hM
      clear hl1 hM hN
      obtain ⟨p, c1, f1, hp, hg, hf⟩ := QGood.take (s := s) HS.out.any (sees_nz HB1.out)
      obtain ⟨W, hW⟩ : ∃ W, W = w3.setCell ⟨g, 1, none⟩ (.int .i64 ((p : Int) + 1)) := ⟨_, rfl⟩
      rw [← hW] at hg hf
      replace HS := hidden (HS.out.step (o' := .ok s.next) hg hf (fun _ h => h))
      clear hg hf
      go_wp2_with fail
      rw [← hW]
      clear hW c1 f1
      have z3 : W.cell? ⟨G, 3, none⟩ = some (.int .i64 (ta : Int)) := HS.out.tok.at_ rfl
      refine wp_veil ?_
      go_wp2_with fail
      refine (q_opens ta HS.out.any (fun _ _ => by have := HDD.out s rfl; omega)).mono ?_
      rintro en w5 ⟨⟨x5, rfl⟩, ha, hf⟩
      replace HS := hidden (HS.out.step ha hf (fun _ h => h))
      clear ha hf z3
      by_cases hd2 : 200 ≤ d
      · rw [openO_no hd2] at HS
        obtain ⟨e, c5, he⟩ := q_err5 HS.out.any
        have hen : (e != 0) = true := by simpa using he
        clear he
        have HD2 := hidden hd2
        clear hd2
        go_wp2_with fail
        go_ret
        refine ⟨.error (4, ta), _, ?_, ⟨⟨HS.out.any, HS.out.fr, HS.out.z⟩, rfl, QTell.err⟩⟩
        rw [(HTA.out s rfl).2.2.1]
        exact Does.front_deep HSM.out HD2.out
      · rw [openO_yes hd2] at HS
        have c5 := q_ok5 HS.out.any
        have HD2 := hidden hd2
        clear hd2
        go_wp2_with fail
        refine (HU.out (M - 1) (by have := HM.out; omega) _ _ _ _ HS.out.any (fun _ _ => by have := HD2.out; omega) (HL1.out.mono (by omega) (Nat.le_refl _))).mono ?_
        rintro en w6 ⟨v, R6, hdo, hgot⟩
        obtain rfl := hgot.en
        replace HS := hidden (HS.out.then_ hgot.run)
        have HDO := hidden hdo
        have HT := hidden hgot.tell
        have HLV := hidden (Does.left_rd hdo _ _ HL1.out)
        obtain ⟨k, hk⟩ : ∃ k, k = kidO v := ⟨_, rfl⟩
        rw [← hk]
        have HK := hidden hk
        clear hdo hgot hk c5
        obtain ⟨dd, V, c2, f2, hV, ha, hf⟩ := QAny.close HS.out.any (by have := HD2.out; omega)
        obtain ⟨W7, hW7⟩ : ∃ W7, W7 = w6.setCell ⟨g, 2, none⟩ (.int .i64 V) := ⟨_, rfl⟩
        rw [← hW7] at ha hf
        replace HS := hidden (HS.out.step ha hf (fun _ h => h))
        clear ha hf
        go_wp2_with fail
        rw [← hV, ← hW7]
        clear hV hW7 c2 f2
        refine wp_veil ?_
        have z1 : W7.cell? ⟨G, 1, none⟩ = some (.string tx) := HS.out.tok.at_ rfl
        have hX2 : (tx.toList == (⟨bang.toArray⟩ : ByteArray).toList) = !(s.is minus) := by rw [(HTA.out s rfl).2.2.2, txt_eq]; exact text_bang HSM.out
        have hX3 : (tx.toList == [33]) = !(s.is minus) := by rw [← hX2, show (⟨bang.toArray⟩ : ByteArray).toList = [33] by rw [ByteArray.toList_eq]; rfl]
        clear hX2
        have z3 : (W7.alloc (.cells #[.int .i64 k] 3)).cell? ⟨G, 3, none⟩ = some (.int .i64 (ta : Int)) := (HS.out.below ((Below.refl _ _).alloc (Nat.le_refl _) _)).tok.at_ rfl
        have z3' : W7.cell? ⟨G, 3, none⟩ = some (.int .i64 (ta : Int)) := HS.out.tok.at_ rfl
        cases hm : s.is minus with
        | true =>
          replace hX3 : (tx.toList == [33]) = false := by rw [hX3, hm]; rfl
          have HMM := hidden hm
          clear hm
          go_wp2_with fail
          refine wp_veil ?_
          go_wp2_with fail
          refine (lay_new 6 [k] 0 ⟨#[]⟩ ta #[.int .i64 k] rfl 1 rfl HS.out.any (fun j hj => by rw [List.mem_singleton.1 hj, HK.out]; exact HT.out.kidIn) (HLV.out.self.mono (by omega) (by omega)) (by simp)).mono ?_
          rintro en w8 ⟨u, R8, hdu, hgot, _⟩
          obtain rfl := hgot.en
          have HDU := hidden hdu
          have HG := hidden hgot
          clear hdu hgot
          go_wp2_with fail
          go_ret
          exact ⟨u, R8, Does.front_sign HSM.out HD2.out HDO.out (by rw [HMM.out]; rw [← (HTA.out s rfl).2.2.1, ← HK.out]; exact HDU.out), ⟨HS.out.toQRun.then_ HG.out.run, rfl, HG.out.tell.back (Grow.next.trans HT.out.grow)⟩⟩
        | false =>
          replace hX3 : (tx.toList == [33]) = true := by rw [hX3, hm]; rfl
          have HMM := hidden hm
          clear hm
          go_wp2_with fail
          refine wp_veil ?_
          go_wp2_with fail
          refine (lay_new 7 [k] 0 ⟨#[]⟩ ta #[.int .i64 k] rfl 1 rfl HS.out.any (fun j hj => by rw [List.mem_singleton.1 hj, HK.out]; exact HT.out.kidIn) (HLV.out.self.mono (by omega) (by omega)) (by simp)).mono ?_
          rintro en w8 ⟨u, R8, hdu, hgot, _⟩
          obtain rfl := hgot.en
          have HDU := hidden hdu
          have HG := hidden hgot
          clear hdu hgot
          go_wp2_with fail
          go_ret
          exact ⟨u, R8, Does.front_sign HSM.out HD2.out HDO.out (by rw [HMM.out]; rw [← (HTA.out s rfl).2.2.1, ← HK.out]; exact HDU.out), ⟨HS.out.toQRun.then_ HG.out.run, rfl, HG.out.tell.back (Grow.next.trans HT.out.grow)⟩⟩
    · have HNB : Hid (∀ s, o = .ok s → s.is bang = false) := hb
      clear hb
      go_wp2_with fail
      refine (HI.out _ _ _ _ HS.out.any HDD.out HL.out).mono ?_
      rintro en w4 ⟨u, R4, hdo, hgot⟩
      obtain rfl := hgot.en
      have HDO := hidden hdo
      have HG := hidden hgot
      clear hdo hgot
      go_wp2_with fail
      go_ret
      exact ⟨u, R4, Does.front_none HNM.out HNB.out HDO.out, HS.out.toQRun.got HG.out⟩
end Go.Proofs.YtagacfcpepoaoaaGreatDoor
