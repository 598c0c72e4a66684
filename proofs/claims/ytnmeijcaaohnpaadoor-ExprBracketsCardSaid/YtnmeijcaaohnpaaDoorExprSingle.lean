/- The walk through the reader's single. -/
import Derived.Test.YtnmeijcaaohnpaaDoorExprWalk2
namespace Go.Proofs.YtnmeijcaaohnpaaDoor
open Go.RowKit
set_option linter.unusedVariables false

variable {B g : Nat} {L : List Tk}
theorem sg_of {t : Tk} (h1 : sees t lp = false) (h2 : sees t wTrue = false) (h3 : sees t wFalse = false) (h4 : sees t wNil = false) (h5 : sees t wLen = false) (h6 : sees t wNew = false) : sg t = if t.kind = 2 then 7 else if t.kind = 1 then 8 else 0 := by
  unfold sg; simp [h1, h2, h3, h4, h5, h6]
/-- a leaf is laid -/
theorem put_leaf {w : World} {R : Bx} {d : Nat} {s : PS} (K n : Int) (nm : ByteArray) (A : Nat) (H : Good B g L w R d s) (hf : s.l.length + s.r.length < L.length) :
    Calls Tryd.prog 49 #[.pointer (some ⟨g, 0, none⟩), .agg #[.int .i64 K, .slice none 0 0, .int .i64 n, .string nm, .int .i64 (A : Int)]] w (Ends B g L w R d (lay (En K [] n nm A) s)) :=
  g_put (B' := w.heap.size) ⟨K, none, 0, [], n, nm, (A : Int)⟩ A H ⟨rfl, .inl ⟨rfl, rfl⟩⟩ hf (by simp) rfl
theorem Ends.trans {w w1 w' : World} {R R1 : Bx} {d : Nat} {v : Out} {en : Ending} (F : Fr g w w1 R R1) (hz : R1.Z = R.Z) (h : Ends B g L w1 R1 d v en w') : Ends B g L w R d v en w' := by
  obtain ⟨R2, hf, hz2, h⟩ := h
  exact ⟨R2, F.trans hf, hz2.trans hz, h⟩
/-- what is told is an int -/
theorem Ends.val {w w' : World} {R : Bx} {d : Nat} {v : Out} {en : Ending} (h : Ends B g L w R d v en w') : ∃ k, en = .returned (.int .i64 k) := by
  obtain ⟨R2, _, _, ⟨k, s', _, rfl, _⟩ | ⟨f, _, rfl, _⟩⟩ := h
  · exact ⟨_, rfl⟩
  · exact ⟨_, rfl⟩
set_option maxRecDepth 100000 in
set_option maxHeartbeats 8000000 in
theorem single_of {M : Nat} (hE : CExpr B g L M) (w : World) (R : Bx) (d : Nat) (s : PS) (H : Good B g L w R d s) (hd : d ≤ 200) (hM : s.r.length ≤ M + 1) :
    Calls Tryd.prog 54 #[.pointer (some ⟨g, 0, none⟩)] w (Post B g L .single w R d s) := by
  have HE := hidden hE
  have HI := hidden (inner_of hE)
  have HSZ := hidden H.size
  have HS := hidden H
  have HM := hidden hM
  have HTK := hidden (g_token H)
  clear H hE hM
  obtain ⟨K, hK⟩ : ∃ K, K = s.tok.kind := ⟨_, rfl⟩
  obtain ⟨X, hX⟩ : ∃ X : ByteArray, X = ⟨s.tok.text.toArray⟩ := ⟨_, rfl⟩
  obtain ⟨N, hN⟩ : ∃ N, N = s.tok.n := ⟨_, rfl⟩
  obtain ⟨A, hA⟩ : ∃ A, A = s.tok.place := ⟨_, rfl⟩
  rw [← hK, ← hX, ← hN, ← hA] at HTK
  have HK := hidden hK
  have HX := hidden hX
  have HN := hidden hN
  have HA := hidden hA
  clear hK hX hN hA
  go_enter Tryd.func54, Tryd.ntmps54
  rw [veil 2, veil 14, veil 15, veil 16, veil 5, veil 7, veil 9, veil 11, veil 13, veil 19, veil 20]
  go_wp2_with fail
  refine HTK.out.mono ?_
  rintro en w1 ⟨rfl, hb1⟩
  have HB1 := hidden hb1
  clear hb1
  go_wp2_with fail
  obtain ⟨W, hW⟩ : ∃ W, W = w1.alloc (.cells #[.int .i64 (K : Int), .string X, .int .i64 (N : Int), .int .i64 (A : Int)] 31) := ⟨_, rfl⟩
  obtain ⟨G, hG⟩ : ∃ G, G = w1.heap.size := ⟨_, rfl⟩
  have HG : Hid (Held W G 31 #[.int .i64 (K : Int), .string X, .int .i64 (N : Int), .int .i64 (A : Int)]) := by rw [hW, hG]; exact Held.new _ _ _
  have HB : Hid (Below w.heap.size w W) := by rw [hW]; exact HB1.out.alloc HB1.out.size _
  rw [← hW, ← hG]
  clear hW hG HB1
  replace HS := hidden (HS.out.below HB.out)
  have HF : Hid (Fr g w W R R) := Fr.of_below R HB.out
  refine wp_veil ?_
  go_wp2_with fail
  refine (g_is lp HS.out).mono ?_
  rintro en v1 ⟨rfl, hb⟩
  replace HG := hidden (HG.out.since hb)
  replace HS := hidden (HS.out.below hb)
  replace HF := hidden (HF.out.trans (Fr.of_below _ hb))
  clear hb
  cases h1 : s.is lp with
  | true =>
    have HC := hidden h1
    clear h1
    go_wp2_with fail
    refine (HI.out lp rp _ _ _ _ HS.out hd HM.out).mono ?_
    rintro en x9 ⟨v, hrd, hEn⟩
    obtain ⟨k9, rfl⟩ := hEn.val
    have HEN := hidden (hEn.trans HF.out rfl)
    have HRD := hidden hrd
    clear hEn hrd
    go_wp2_with fail
    go_ret
    exact ⟨_, Reads.single_in (by unfold sg; exact if_pos HC.out) HRD.out, HEN.out⟩
  | false =>
    have H1 := hidden h1
    clear h1
    go_wp2_with fail
    cases hc : s.is wTrue with
    | true =>
      have HC := hidden hc
      clear hc
      refine (g_skip_yes wTrue HS.out HC.out).mono ?_
      rintro en v2 ⟨rfl, hg, hf⟩
      replace HG := hidden (HS.out.held hf HG.out (by decide) (by decide) (by decide))
      replace HS := hidden hg
      replace HF := hidden (HF.out.trans hf)
      clear hg hf
      have z3 := HG.out.t3
      have HNX := hidden (is_some HC.out)
      go_wp2_with fail
      refine wp_veil ?_
      go_wp2_with fail
      refine (put_leaf 2 1 ⟨#[]⟩ A HS.out (by have := HSZ.out; have := HNX.out; have e : s.next.l = s.l := rfl; rw [e]; omega)).mono ?_
      rintro en x9 hEn
      obtain ⟨k9, rfl⟩ := hEn.val
      have HEN := hidden (hEn.trans HF.out rfl)
      clear hEn
      go_wp2_with fail
      go_ret
      exact ⟨_, (by rw [HA.out]; exact Reads.single_true (by unfold sg; rw [if_neg (by have := H1.out; unfold PS.is at this; rw [this]; decide)]; exact if_pos HC.out)), HEN.out⟩
    | false =>
      have H2 := hidden hc
      clear hc
      refine (g_skip_no wTrue HS.out H2.out).mono ?_
      rintro en v3 ⟨rfl, hb⟩
      replace HG := hidden (HG.out.since hb)
      replace HS := hidden (HS.out.below hb)
      replace HF := hidden (HF.out.trans (Fr.of_below _ hb))
      clear hb
      go_wp2_with fail
      cases hc : s.is wFalse with
      | true =>
        have HC := hidden hc
        clear hc
        refine (g_skip_yes wFalse HS.out HC.out).mono ?_
        rintro en v4 ⟨rfl, hg, hf⟩
        replace HG := hidden (HS.out.held hf HG.out (by decide) (by decide) (by decide))
        replace HS := hidden hg
        replace HF := hidden (HF.out.trans hf)
        clear hg hf
        have z3 := HG.out.t3
        have HNX := hidden (is_some HC.out)
        go_wp2_with fail
        refine wp_veil ?_
        go_wp2_with fail
        refine (put_leaf 2 0 ⟨#[]⟩ A HS.out (by have := HSZ.out; have := HNX.out; have e : s.next.l = s.l := rfl; rw [e]; omega)).mono ?_
        rintro en x9 hEn
        obtain ⟨k9, rfl⟩ := hEn.val
        have HEN := hidden (hEn.trans HF.out rfl)
        clear hEn
        go_wp2_with fail
        go_ret
        exact ⟨_, (by rw [HA.out]; exact Reads.single_false (by unfold sg; rw [if_neg (by have := H1.out; unfold PS.is at this; rw [this]; decide)]; rw [if_neg (by have := H2.out; unfold PS.is at this; rw [this]; decide)]; exact if_pos HC.out)), HEN.out⟩
      | false =>
        have H3 := hidden hc
        clear hc
        refine (g_skip_no wFalse HS.out H3.out).mono ?_
        rintro en v5 ⟨rfl, hb⟩
        replace HG := hidden (HG.out.since hb)
        replace HS := hidden (HS.out.below hb)
        replace HF := hidden (HF.out.trans (Fr.of_below _ hb))
        clear hb
        go_wp2_with fail
        cases hc : s.is wNil with
        | true =>
          have HC := hidden hc
          clear hc
          refine (g_skip_yes wNil HS.out HC.out).mono ?_
          rintro en v6 ⟨rfl, hg, hf⟩
          replace HG := hidden (HS.out.held hf HG.out (by decide) (by decide) (by decide))
          replace HS := hidden hg
          replace HF := hidden (HF.out.trans hf)
          clear hg hf
          have z3 := HG.out.t3
          have HNX := hidden (is_some HC.out)
          go_wp2_with fail
          refine wp_veil ?_
          go_wp2_with fail
          refine (put_leaf 3 0 ⟨#[]⟩ A HS.out (by have := HSZ.out; have := HNX.out; have e : s.next.l = s.l := rfl; rw [e]; omega)).mono ?_
          rintro en x9 hEn
          obtain ⟨k9, rfl⟩ := hEn.val
          have HEN := hidden (hEn.trans HF.out rfl)
          clear hEn
          go_wp2_with fail
          go_ret
          exact ⟨_, (by rw [HA.out]; exact Reads.single_nil (by unfold sg; rw [if_neg (by have := H1.out; unfold PS.is at this; rw [this]; decide)]; rw [if_neg (by have := H2.out; unfold PS.is at this; rw [this]; decide)]; rw [if_neg (by have := H3.out; unfold PS.is at this; rw [this]; decide)]; exact if_pos HC.out)), HEN.out⟩
        | false =>
          have H4 := hidden hc
          clear hc
          refine (g_skip_no wNil HS.out H4.out).mono ?_
          rintro en v7 ⟨rfl, hb⟩
          replace HG := hidden (HG.out.since hb)
          replace HS := hidden (HS.out.below hb)
          replace HF := hidden (HF.out.trans (Fr.of_below _ hb))
          clear hb
          go_wp2_with fail
          cases hc : s.is wLen with
          | true =>
            have HC := hidden hc
            clear hc
            refine (g_skip_yes wLen HS.out HC.out).mono ?_
            rintro en v8 ⟨rfl, hg, hf⟩
            replace HG := hidden (HS.out.held hf HG.out (by decide) (by decide) (by decide))
            replace HS := hidden hg
            replace HF := hidden (HF.out.trans hf)
            clear hg hf
            have z3 := HG.out.t3
            have HNX := hidden (is_some HC.out)
            go_wp2_with fail
            refine wp_veil ?_
            go_wp2_with fail
            refine (around_of HI.out 9 A _ _ _ _ HS.out hd (by have := HM.out; have := HNX.out; omega) (by have := HSZ.out; have := HNX.out; have e : s.next.l = s.l := rfl; rw [e]; omega)).mono ?_
            rintro en x9 hPA
            rcases hPA with ⟨f, hrd, hEn⟩ | ⟨q, s1, hrd, hEn⟩
            · obtain ⟨k9, rfl⟩ := hEn.val
              have HEN := hidden (hEn.trans HF.out rfl)
              have HRD := hidden hrd
              clear hEn hrd
              go_wp2_with fail
              go_ret
              exact ⟨_, Reads.single_err (j := 5) (by decide) (by unfold sg; rw [if_neg (by have := H1.out; unfold PS.is at this; rw [this]; decide)]; rw [if_neg (by have := H2.out; unfold PS.is at this; rw [this]; decide)]; rw [if_neg (by have := H3.out; unfold PS.is at this; rw [this]; decide)]; rw [if_neg (by have := H4.out; unfold PS.is at this; rw [this]; decide)]; exact if_pos HC.out) HRD.out, HEN.out⟩
            · obtain ⟨k9, rfl⟩ := hEn.val
              have HEN := hidden (hEn.trans HF.out rfl)
              have HRD := hidden hrd
              clear hEn hrd
              go_wp2_with fail
              go_ret
              exact ⟨_, Reads.single_around (j := 5) (by decide) (by unfold sg; rw [if_neg (by have := H1.out; unfold PS.is at this; rw [this]; decide)]; rw [if_neg (by have := H2.out; unfold PS.is at this; rw [this]; decide)]; rw [if_neg (by have := H3.out; unfold PS.is at this; rw [this]; decide)]; rw [if_neg (by have := H4.out; unfold PS.is at this; rw [this]; decide)]; exact if_pos HC.out) HRD.out, by rw [HA.out] at HEN; exact HEN.out⟩
          | false =>
            have H5 := hidden hc
            clear hc
            refine (g_skip_no wLen HS.out H5.out).mono ?_
            rintro en v9 ⟨rfl, hb⟩
            replace HG := hidden (HG.out.since hb)
            replace HS := hidden (HS.out.below hb)
            replace HF := hidden (HF.out.trans (Fr.of_below _ hb))
            clear hb
            go_wp2_with fail
            cases hc : s.is wNew with
            | true =>
              have HC := hidden hc
              clear hc
              refine (g_skip_yes wNew HS.out HC.out).mono ?_
              rintro en v10 ⟨rfl, hg, hf⟩
              replace HG := hidden (HS.out.held hf HG.out (by decide) (by decide) (by decide))
              replace HS := hidden hg
              replace HF := hidden (HF.out.trans hf)
              clear hg hf
              have z3 := HG.out.t3
              have HNX := hidden (is_some HC.out)
              go_wp2_with fail
              refine wp_veil ?_
              go_wp2_with fail
              refine (around_of HI.out 10 A _ _ _ _ HS.out hd (by have := HM.out; have := HNX.out; omega) (by have := HSZ.out; have := HNX.out; have e : s.next.l = s.l := rfl; rw [e]; omega)).mono ?_
              rintro en x9 hPA
              rcases hPA with ⟨f, hrd, hEn⟩ | ⟨q, s1, hrd, hEn⟩
              · obtain ⟨k9, rfl⟩ := hEn.val
                have HEN := hidden (hEn.trans HF.out rfl)
                have HRD := hidden hrd
                clear hEn hrd
                go_wp2_with fail
                go_ret
                exact ⟨_, Reads.single_err (j := 6) (by decide) (by unfold sg; rw [if_neg (by have := H1.out; unfold PS.is at this; rw [this]; decide)]; rw [if_neg (by have := H2.out; unfold PS.is at this; rw [this]; decide)]; rw [if_neg (by have := H3.out; unfold PS.is at this; rw [this]; decide)]; rw [if_neg (by have := H4.out; unfold PS.is at this; rw [this]; decide)]; rw [if_neg (by have := H5.out; unfold PS.is at this; rw [this]; decide)]; exact if_pos HC.out) HRD.out, HEN.out⟩
              · obtain ⟨k9, rfl⟩ := hEn.val
                have HEN := hidden (hEn.trans HF.out rfl)
                have HRD := hidden hrd
                clear hEn hrd
                go_wp2_with fail
                go_ret
                exact ⟨_, Reads.single_around (j := 6) (by decide) (by unfold sg; rw [if_neg (by have := H1.out; unfold PS.is at this; rw [this]; decide)]; rw [if_neg (by have := H2.out; unfold PS.is at this; rw [this]; decide)]; rw [if_neg (by have := H3.out; unfold PS.is at this; rw [this]; decide)]; rw [if_neg (by have := H4.out; unfold PS.is at this; rw [this]; decide)]; rw [if_neg (by have := H5.out; unfold PS.is at this; rw [this]; decide)]; exact if_pos HC.out) HRD.out, by rw [HA.out] at HEN; exact HEN.out⟩
            | false =>
              have H6 := hidden hc
              clear hc
              refine (g_skip_no wNew HS.out H6.out).mono ?_
              rintro en v11 ⟨rfl, hb⟩
              replace HG := hidden (HG.out.since hb)
              replace HS := hidden (HS.out.below hb)
              replace HF := hidden (HF.out.trans (Fr.of_below _ hb))
              clear hb
              go_wp2_with fail
              have HSG := hidden (sg_of H1.out H2.out H3.out H4.out H5.out H6.out)
              refine wp_veil ?_
              have z0 := HG.out.t0
              by_cases hk : K = 2
              · have hk2 : ((K : Int) == 2) = true := by simp; omega
                have HK2 : Hid (s.tok.kind = 2) := by show s.tok.kind = 2; rw [← HK.out]; exact hk
                go_wp2_with fail
                refine (g_canTake HS.out).mono ?_
                rintro en v12 ⟨rfl, hb⟩
                replace HG := hidden (HG.out.since hb)
                replace HS := hidden (HS.out.below hb)
                replace HF := hidden (HF.out.trans (Fr.of_below _ hb))
                clear hb z0
                go_wp2_with fail
                refine wp_veil ?_
                have HNX := hidden (kind_some (s := s) (by rw [HK2.out]; decide))
                obtain ⟨p, l, hR, hr, hl, ht, hnr⟩ := HS.out.tok
                have c1 := hR.c1
                have f1 := hR.box.frozen 1
                have hpm : p < 100000 := by have := hR.here; have := hR.many; omega
                have HTKN := hidden (Good.of_take hl hnr (hR.take ht (by rw [HK2.out]; decide) _ rfl))
                clear hR hr hl ht hnr
                go_wp2_with fail
                refine wp_veil ?_
                obtain ⟨V4, hV4⟩ : ∃ V4, V4 = v12.setCell ⟨g, 1, none⟩ (.int .i64 ((p : Int) + 1)) := ⟨_, rfl⟩
                rw [← hV4] at HTKN ⊢
                replace HG := hidden (HS.out.held HTKN.out.2 HG.out (by decide) (by decide) (by decide))
                replace HS := hidden HTKN.out.1
                replace HF := hidden (HF.out.trans HTKN.out.2)
                have z2 := HG.out.t2
                have z3 := HG.out.t3
                clear hV4 HTKN c1 f1
                go_wp2_with fail
                refine (put_leaf 1 (N : Int) ⟨#[]⟩ A HS.out (by have := HSZ.out; have := HNX.out; have e : s.next.l = s.l := rfl; rw [e]; omega)).mono ?_
                rintro en x9 hEn
                obtain ⟨k9, rfl⟩ := hEn.val
                have HEN := hidden (hEn.trans HF.out rfl)
                clear hEn
                go_wp2_with fail
                go_ret
                exact ⟨_, (by rw [HA.out, HN.out]; exact Reads.single_num (by rw [HSG.out, if_pos HK2.out])), HEN.out⟩
              · have hk2 : ((K : Int) == 2) = false := by simp; omega
                have HK2 : Hid (s.tok.kind ≠ 2) := by show s.tok.kind ≠ 2; rw [← HK.out]; exact hk
                go_wp2_with fail
                by_cases hk1 : K = 1
                · have HK1 : Hid (s.tok.kind = 1) := by show s.tok.kind = 1; rw [← HK.out]; exact hk1
                  have HSV : Hid (sg s.tok = 8) := by show _ = _; rw [HSG.out, if_neg HK2.out, if_pos HK1.out]
                  have hNM := g_name_yes HS.out HK1.out
                  rw [← HX.out] at hNM
                  refine hNM.mono ?_
                  rintro en v13 ⟨rfl, hg, hf⟩
                  replace HG := hidden (HS.out.held hf HG.out (by decide) (by decide) (by decide))
                  replace HS := hidden hg
                  replace HF := hidden (HF.out.trans hf)
                  clear hg hf hNM z0
                  have HNX := hidden (kind_some (s := s) (by rw [HK1.out]; decide))
                  go_wp2_with fail
                  refine (g_is lp HS.out).mono ?_
                  rintro en v14 ⟨rfl, hb⟩
                  replace HG := hidden (HG.out.since hb)
                  replace HS := hidden (HS.out.below hb)
                  replace HF := hidden (HF.out.trans (Fr.of_below _ hb))
                  clear hb
                  have z3 := HG.out.t3
                  cases hc : s.next.is lp with
                  | true =>
                    have HC := hidden hc
                    clear hc
                    go_wp2_with fail
                    refine wp_veil ?_
                    go_wp2_with fail
                    refine (call_of HE.out X A _ _ _ _ HS.out hd (by have := HM.out; have := HNX.out; omega)).mono ?_
                    rintro en x9 ⟨v, hrd, hEn⟩
                    obtain ⟨k9, rfl⟩ := hEn.val
                    have HEN := hidden (hEn.trans HF.out rfl)
                    have HRD := hidden hrd
                    clear hEn hrd
                    go_wp2_with fail
                    go_ret
                    exact ⟨_, Reads.single_call HSV.out HC.out (by rw [← HX.out, ← HA.out]; exact HRD.out), HEN.out⟩
                  | false =>
                    have HC := hidden hc
                    clear hc
                    go_wp2_with fail
                    refine wp_veil ?_
                    go_wp2_with fail
                    refine (put_leaf 4 0 X A HS.out (by have := HSZ.out; have := HNX.out; have e : s.next.l = s.l := rfl; rw [e]; omega)).mono ?_
                    rintro en x9 hEn
                    obtain ⟨k9, rfl⟩ := hEn.val
                    have HEN := hidden (hEn.trans HF.out rfl)
                    clear hEn
                    go_wp2_with fail
                    go_ret
                    exact ⟨_, (by rw [HA.out, HX.out]; exact Reads.single_var HSV.out HC.out), HEN.out⟩
                · have HK1 : Hid (s.tok.kind ≠ 1) := by show s.tok.kind ≠ 1; rw [← HK.out]; exact hk1
                  have HSV : Hid (sg s.tok = 0) := by show _ = _; rw [HSG.out, if_neg HK2.out, if_neg HK1.out]
                  refine (g_name_no HS.out HK1.out).mono ?_
                  rintro en v15 ⟨rfl, hg, hf⟩
                  replace HG := hidden (HS.out.held hf HG.out (by decide) (by decide) (by decide))
                  have HD := hidden hg
                  replace HF := hidden (HF.out.trans hf)
                  clear hg hf z0
                  go_wp2_with fail
                  refine (b_is lp HD.out).mono ?_
                  rintro en v16 ⟨rfl, hb⟩
                  replace HG := hidden (HG.out.since hb)
                  replace HD := hidden (HD.out.below hb)
                  replace HF := hidden (HF.out.trans (Fr.of_below _ hb))
                  clear hb
                  have z3 := HG.out.t3
                  go_wp2_with fail
                  refine wp_veil ?_
                  go_wp2_with fail
                  refine (b_put _ _ _ _ _ HD.out).mono ?_
                  rintro en v17 ⟨rfl, hb⟩
                  replace HD := hidden (HD.out.below hb)
                  replace HF := hidden (HF.out.trans (Fr.of_below _ hb))
                  clear hb
                  go_wp2_with fail
                  go_ret
                  exact ⟨_, Reads.single_no HSV.out, _, HF.out, rfl, .inr ⟨_, rfl, rfl, HD.out⟩⟩
end Go.Proofs.YtnmeijcaaohnpaaDoor
