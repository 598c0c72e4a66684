/- ExprSingle, ExprFront, in one text. -/
import Derived.Test.YtagacfcpepoaoaaGreatDoorExprWalk2
namespace Go.Proofs.YtagacfcpepoaoaaGreatDoor
open Go.RowKit
set_option linter.unusedVariables false

variable {B g : Nat} {L : List Tk}
theorem sg_of {t : Tk} (h1 : sees t lp = false) (h2 : sees t wTrue = false) (h3 : sees t wFalse = false) (h4 : sees t wNil = false) (h5 : sees t wLen = false) (h6 : sees t wNew = false) : sg t = if t.kind = 2 then 7 else if t.kind = 1 then 8 else 0 := by
  unfold sg; simp [h1, h2, h3, h4, h5, h6]
/-- a leaf is laid -/
theorem put_leaf {w : World} {R : Bx} {d : Nat} {s : PS} (K n : Int) (nm : ByteArray) (A : Nat) (H : Good B g L w R d s) (hf : s.l.length + s.r.length ≤ L.length) :
    Calls Tryz.prog 44 #[.pointer (some ⟨g, 0, none⟩), .agg #[.int .i64 K, .slice none 0 0, .int .i64 n, .string nm, .int .i64 (A : Int)]] w (Ends B g L w R d (lay (En K [] n nm A) s)) :=
  g_put (B' := w.heap.size) ⟨K, none, 0, [], n, nm, (A : Int)⟩ A H ⟨rfl, .inl ⟨rfl, rfl⟩⟩ hf (by simp) rfl
theorem Ends.trans {w w1 w' : World} {R R1 : Bx} {d : Nat} {v : Out} {en : Ending} (F : Fr g w w1 R R1) (hz : R1.Z = R.Z) (h : Ends B g L w1 R1 d v en w') : Ends B g L w R d v en w' := by
  obtain ⟨R2, hf, hz2, h⟩ := h
  exact ⟨R2, F.trans hf, hz2.trans hz, h⟩
/-- what is told is an int -/
theorem Ends.val {w w' : World} {R : Bx} {d : Nat} {v : Out} {en : Ending} (h : Ends B g L w R d v en w') : ∃ k, en = .returned (.int .i64 k) := by
  obtain ⟨R2, _, _, ⟨k, s', _, rfl, _⟩ | ⟨f, _, rfl, _⟩⟩ := h
  · exact ⟨_, rfl⟩
  · exact ⟨_, rfl⟩
set_option maxRecDepth 100000 in
set_option maxHeartbeats 8000000 in
theorem single_of {M : Nat} (hE : CExpr B g L M) (w : World) (R : Bx) (d : Nat) (s : PS) (H : Good B g L w R d s) (hd : d ≤ 200) (hM : s.r.length ≤ M + 1) :
    Calls Tryz.prog 107 #[.pointer (some ⟨g, 0, none⟩)] w (Post B g L .single w R d s) := by
  have HE := hidden hE
  have HI := hidden (inner_of hE)
  have HSZ := hidden H.size
  have HS := hidden H
  have HM := hidden hM
  have HTK := hidden (g_token H)
  clear H hE hM
  obtain ⟨K, hK⟩ : ∃ K, K = s.tok.kind := ⟨_, rfl⟩
  obtain ⟨X, hX⟩ : ∃ X : ByteArray, X = ⟨s.tok.text.toArray⟩ := ⟨_, rfl⟩
  obtain ⟨N, hN⟩ : ∃ N, N = s.tok.n := ⟨_, rfl⟩
  obtain ⟨A, hA⟩ : ∃ A, A = s.tok.place := ⟨_, rfl⟩
  rw [← hK, ← hX, ← hN, ← hA] at HTK
  have HK := hidden hK
  have HX := hidden hX
  have HN := hidden hN
  have HA := hidden hA
  clear hK hX hN hA
  go_enter Tryz.func107, Tryz.ntmps107
  rw [veil 2, veil 14, veil 15, veil 16, veil 5, veil 7, veil 9, veil 11, veil 13, veil 19, veil 20]
  go_wp2_with fail
  refine HTK.out.mono ?_
  rintro en w1 ⟨rfl, hb1⟩
  have HB1 := hidden hb1
  clear hb1
  go_wp2_with fail
  obtain ⟨W, hW⟩ : ∃ W, W = w1.alloc (.cells #[.int .i64 (K : Int), .string X, .int .i64 (N : Int), .int .i64 (A : Int)] 49) := ⟨_, rfl⟩
  obtain ⟨G, hG⟩ : ∃ G, G = w1.heap.size := ⟨_, rfl⟩
  have HG : Hid (Held W G 49 #[.int .i64 (K : Int), .string X, .int .i64 (N : Int), .int .i64 (A : Int)]) := by rw [hW, hG]; exact Held.new _ _ _
  have HB : Hid (Below w.heap.size w W) := by rw [hW]; exact HB1.out.alloc HB1.out.size _
  rw [← hW, ← hG]
  clear hW hG HB1
  replace HS := hidden (HS.out.below HB.out)
  have HF : Hid (Fr g w W R R) := Fr.of_below R HB.out
  refine wp_veil ?_
  go_wp2_with fail
  refine (g_is lp HS.out).mono ?_
  rintro en v1 ⟨rfl, hb⟩
  replace HG := hidden (HG.out.since hb)
  replace HS := hidden (HS.out.below hb)
  replace HF := hidden (HF.out.trans (Fr.of_below _ hb))
  clear hb
  cases h1 : s.is lp with
  | true =>
    have HC := hidden h1
    clear h1
    go_wp2_with fail
    refine (HI.out lp rp _ _ _ _ HS.out hd HM.out).mono ?_
    rintro en x9 ⟨v, hrd, hEn⟩
    obtain ⟨k9, rfl⟩ := hEn.val
    have HEN := hidden (hEn.trans HF.out rfl)
    have HRD := hidden hrd
    clear hEn hrd
    go_wp2_with fail
    go_ret
    exact ⟨_, Reads.single_in (by unfold sg; exact if_pos HC.out) HRD.out, HEN.out⟩
  | false =>
    have H1 := hidden h1
    clear h1
    go_wp2_with fail
    cases hc : s.is wTrue with
    | true =>
      have HC := hidden hc
      clear hc
      refine (g_skip_yes wTrue HS.out HC.out).mono ?_
      rintro en v2 ⟨rfl, hg, hf⟩
      replace HG := hidden (HS.out.held hf HG.out (by decide) (by decide) (by decide))
      replace HS := hidden hg
      replace HF := hidden (HF.out.trans hf)
      clear hg hf
      have z3 := HG.out.t3
      have HNX := hidden (is_some HC.out)
      go_wp2_with fail
      refine wp_veil ?_
      go_wp2_with fail
      refine (put_leaf 2 1 ⟨#[]⟩ A HS.out (by have := HSZ.out; have := HNX.out; have e : s.next.l = s.l := rfl; rw [e]; omega)).mono ?_
      rintro en x9 hEn
      obtain ⟨k9, rfl⟩ := hEn.val
      have HEN := hidden (hEn.trans HF.out rfl)
      clear hEn
      go_wp2_with fail
      go_ret
      exact ⟨_, (by rw [HA.out]; exact Reads.single_true (by unfold sg; rw [if_neg (by have := H1.out; unfold PS.is at this; rw [this]; decide)]; exact if_pos HC.out)), HEN.out⟩
    | false =>
      have H2 := hidden hc
      clear hc
      refine (g_skip_no wTrue HS.out H2.out).mono ?_
      rintro en v3 ⟨rfl, hb⟩
      replace HG := hidden (HG.out.since hb)
      replace HS := hidden (HS.out.below hb)
      replace HF := hidden (HF.out.trans (Fr.of_below _ hb))
      clear hb
      go_wp2_with fail
      cases hc : s.is wFalse with
      | true =>
        have HC := hidden hc
        clear hc
        refine (g_skip_yes wFalse HS.out HC.out).mono ?_
        rintro en v4 ⟨rfl, hg, hf⟩
        replace HG := hidden (HS.out.held hf HG.out (by decide) (by decide) (by decide))
        replace HS := hidden hg
        replace HF := hidden (HF.out.trans hf)
        clear hg hf
        have z3 := HG.out.t3
        have HNX := hidden (is_some HC.out)
        go_wp2_with fail
        refine wp_veil ?_
        go_wp2_with fail
        refine (put_leaf 2 0 ⟨#[]⟩ A HS.out (by have := HSZ.out; have := HNX.out; have e : s.next.l = s.l := rfl; rw [e]; omega)).mono ?_
        rintro en x9 hEn
        obtain ⟨k9, rfl⟩ := hEn.val
        have HEN := hidden (hEn.trans HF.out rfl)
        clear hEn
        go_wp2_with fail
        go_ret
        exact ⟨_, (by rw [HA.out]; exact Reads.single_false (by unfold sg; rw [if_neg (by have := H1.out; unfold PS.is at this; rw [this]; decide)]; rw [if_neg (by have := H2.out; unfold PS.is at this; rw [this]; decide)]; exact if_pos HC.out)), HEN.out⟩
      | false =>
        have H3 := hidden hc
        clear hc
        refine (g_skip_no wFalse HS.out H3.out).mono ?_
        rintro en v5 ⟨rfl, hb⟩
        replace HG := hidden (HG.out.since hb)
        replace HS := hidden (HS.out.below hb)
        replace HF := hidden (HF.out.trans (Fr.of_below _ hb))
        clear hb
        go_wp2_with fail
        cases hc : s.is wNil with
        | true =>
          have HC := hidden hc
          clear hc
          refine (g_skip_yes wNil HS.out HC.out).mono ?_
          rintro en v6 ⟨rfl, hg, hf⟩
          replace HG := hidden (HS.out.held hf HG.out (by decide) (by decide) (by decide))
          replace HS := hidden hg
          replace HF := hidden (HF.out.trans hf)
          clear hg hf
          have z3 := HG.out.t3
          have HNX := hidden (is_some HC.out)
          go_wp2_with fail
          refine wp_veil ?_
          go_wp2_with fail
          refine (put_leaf 3 0 ⟨#[]⟩ A HS.out (by have := HSZ.out; have := HNX.out; have e : s.next.l = s.l := rfl; rw [e]; omega)).mono ?_
          rintro en x9 hEn
          obtain ⟨k9, rfl⟩ := hEn.val
          have HEN := hidden (hEn.trans HF.out rfl)
          clear hEn
          go_wp2_with fail
          go_ret
          exact ⟨_, (by rw [HA.out]; exact Reads.single_nil (by unfold sg; rw [if_neg (by have := H1.out; unfold PS.is at this; rw [this]; decide)]; rw [if_neg (by have := H2.out; unfold PS.is at this; rw [this]; decide)]; rw [if_neg (by have := H3.out; unfold PS.is at this; rw [this]; decide)]; exact if_pos HC.out)), HEN.out⟩
        | false =>
          have H4 := hidden hc
          clear hc
          refine (g_skip_no wNil HS.out H4.out).mono ?_
          rintro en v7 ⟨rfl, hb⟩
          replace HG := hidden (HG.out.since hb)
          replace HS := hidden (HS.out.below hb)
          replace HF := hidden (HF.out.trans (Fr.of_below _ hb))
          clear hb
          go_wp2_with fail
          cases hc : s.is wLen with
          | true =>
            have HC := hidden hc
            clear hc
            refine (g_skip_yes wLen HS.out HC.out).mono ?_
            rintro en v8 ⟨rfl, hg, hf⟩
            replace HG := hidden (HS.out.held hf HG.out (by decide) (by decide) (by decide))
            replace HS := hidden hg
            replace HF := hidden (HF.out.trans hf)
            clear hg hf
            have z3 := HG.out.t3
            have HNX := hidden (is_some HC.out)
            go_wp2_with fail
            refine wp_veil ?_
            go_wp2_with fail
            refine (around_of HI.out 9 A _ _ _ _ HS.out hd (by have := HM.out; have := HNX.out; omega) (by have := HSZ.out; have := HNX.out; have e : s.next.l = s.l := rfl; rw [e]; omega)).mono ?_
            rintro en x9 hPA
            rcases hPA with ⟨f, hrd, hEn⟩ | ⟨q, s1, hrd, hEn⟩
            · obtain ⟨k9, rfl⟩ := hEn.val
              have HEN := hidden (hEn.trans HF.out rfl)
              have HRD := hidden hrd
              clear hEn hrd
              go_wp2_with fail
              go_ret
              exact ⟨_, Reads.single_err (j := 5) (by decide) (by unfold sg; rw [if_neg (by have := H1.out; unfold PS.is at this; rw [this]; decide)]; rw [if_neg (by have := H2.out; unfold PS.is at this; rw [this]; decide)]; rw [if_neg (by have := H3.out; unfold PS.is at this; rw [this]; decide)]; rw [if_neg (by have := H4.out; unfold PS.is at this; rw [this]; decide)]; exact if_pos HC.out) HRD.out, HEN.out⟩
            · obtain ⟨k9, rfl⟩ := hEn.val
              have HEN := hidden (hEn.trans HF.out rfl)
              have HRD := hidden hrd
              clear hEn hrd
              go_wp2_with fail
              go_ret
              exact ⟨_, Reads.single_around (j := 5) (by decide) (by unfold sg; rw [if_neg (by have := H1.out; unfold PS.is at this; rw [this]; decide)]; rw [if_neg (by have := H2.out; unfold PS.is at this; rw [this]; decide)]; rw [if_neg (by have := H3.out; unfold PS.is at this; rw [this]; decide)]; rw [if_neg (by have := H4.out; unfold PS.is at this; rw [this]; decide)]; exact if_pos HC.out) HRD.out, by rw [HA.out] at HEN; exact HEN.out⟩
          | false =>
            have H5 := hidden hc
            clear hc
            refine (g_skip_no wLen HS.out H5.out).mono ?_
            rintro en v9 ⟨rfl, hb⟩
            replace HG := hidden (HG.out.since hb)
            replace HS := hidden (HS.out.below hb)
            replace HF := hidden (HF.out.trans (Fr.of_below _ hb))
            clear hb
            go_wp2_with fail
            cases hc : s.is wNew with
            | true =>
              have HC := hidden hc
              clear hc
              refine (g_skip_yes wNew HS.out HC.out).mono ?_
              rintro en v10 ⟨rfl, hg, hf⟩
              replace HG := hidden (HS.out.held hf HG.out (by decide) (by decide) (by decide))
              replace HS := hidden hg
              replace HF := hidden (HF.out.trans hf)
              clear hg hf
              have z3 := HG.out.t3
              have HNX := hidden (is_some HC.out)
              go_wp2_with fail
              refine wp_veil ?_
              go_wp2_with fail
              refine (around_of HI.out 10 A _ _ _ _ HS.out hd (by have := HM.out; have := HNX.out; omega) (by have := HSZ.out; have := HNX.out; have e : s.next.l = s.l := rfl; rw [e]; omega)).mono ?_
              rintro en x9 hPA
              rcases hPA with ⟨f, hrd, hEn⟩ | ⟨q, s1, hrd, hEn⟩
              · obtain ⟨k9, rfl⟩ := hEn.val
                have HEN := hidden (hEn.trans HF.out rfl)
                have HRD := hidden hrd
                clear hEn hrd
                go_wp2_with fail
                go_ret
                exact ⟨_, Reads.single_err (j := 6) (by decide) (by unfold sg; rw [if_neg (by have := H1.out; unfold PS.is at this; rw [this]; decide)]; rw [if_neg (by have := H2.out; unfold PS.is at this; rw [this]; decide)]; rw [if_neg (by have := H3.out; unfold PS.is at this; rw [this]; decide)]; rw [if_neg (by have := H4.out; unfold PS.is at this; rw [this]; decide)]; rw [if_neg (by have := H5.out; unfold PS.is at this; rw [this]; decide)]; exact if_pos HC.out) HRD.out, HEN.out⟩
              · obtain ⟨k9, rfl⟩ := hEn.val
                have HEN := hidden (hEn.trans HF.out rfl)
                have HRD := hidden hrd
                clear hEn hrd
                go_wp2_with fail
                go_ret
                exact ⟨_, Reads.single_around (j := 6) (by decide) (by unfold sg; rw [if_neg (by have := H1.out; unfold PS.is at this; rw [this]; decide)]; rw [if_neg (by have := H2.out; unfold PS.is at this; rw [this]; decide)]; rw [if_neg (by have := H3.out; unfold PS.is at this; rw [this]; decide)]; rw [if_neg (by have := H4.out; unfold PS.is at this; rw [this]; decide)]; rw [if_neg (by have := H5.out; unfold PS.is at this; rw [this]; decide)]; exact if_pos HC.out) HRD.out, by rw [HA.out] at HEN; exact HEN.out⟩
            | false =>
              have H6 := hidden hc
              clear hc
              refine (g_skip_no wNew HS.out H6.out).mono ?_
              rintro en v11 ⟨rfl, hb⟩
              replace HG := hidden (HG.out.since hb)
              replace HS := hidden (HS.out.below hb)
              replace HF := hidden (HF.out.trans (Fr.of_below _ hb))
              clear hb
              go_wp2_with fail
              have HSG := hidden (sg_of H1.out H2.out H3.out H4.out H5.out H6.out)
              refine wp_veil ?_
              have z0 := HG.out.t0
              by_cases hk : K = 2
              · have hk2 : ((K : Int) == 2) = true := by simp; omega
                have HK2 : Hid (s.tok.kind = 2) := by show s.tok.kind = 2; rw [← HK.out]; exact hk
                go_wp2_with fail
                refine (g_canTake HS.out).mono ?_
                rintro en v12 ⟨rfl, hb⟩
                replace HG := hidden (HG.out.since hb)
                replace HS := hidden (HS.out.below hb)
                replace HF := hidden (HF.out.trans (Fr.of_below _ hb))
                clear hb z0
                go_wp2_with fail
                refine wp_veil ?_
                have HNX := hidden (kind_some (s := s) (by rw [HK2.out]; decide))
                obtain ⟨p, l, hR, hr, hl, ht, hnr⟩ := HS.out.tok
                have c1 := hR.c1
                have f1 := hR.box.frozen 1
                have hpm : p < 100000 := by have := hR.here; have := hR.many; omega
                have HTKN := hidden (Good.of_take hl hnr (hR.take ht (by rw [HK2.out]; decide) _ rfl))
                clear hR hr hl ht hnr
                go_wp2_with fail
                refine wp_veil ?_
                obtain ⟨V4, hV4⟩ : ∃ V4, V4 = v12.setCell ⟨g, 1, none⟩ (.int .i64 ((p : Int) + 1)) := ⟨_, rfl⟩
                rw [← hV4] at HTKN ⊢
                replace HG := hidden (HS.out.held HTKN.out.2 HG.out (by decide) (by decide) (by decide))
                replace HS := hidden HTKN.out.1
                replace HF := hidden (HF.out.trans HTKN.out.2)
                have z2 := HG.out.t2
                have z3 := HG.out.t3
                clear hV4 HTKN c1 f1
                go_wp2_with fail
                refine (put_leaf 1 (N : Int) ⟨#[]⟩ A HS.out (by have := HSZ.out; have := HNX.out; have e : s.next.l = s.l := rfl; rw [e]; omega)).mono ?_
                rintro en x9 hEn
                obtain ⟨k9, rfl⟩ := hEn.val
                have HEN := hidden (hEn.trans HF.out rfl)
                clear hEn
                go_wp2_with fail
                go_ret
                exact ⟨_, (by rw [HA.out, HN.out]; exact Reads.single_num (by rw [HSG.out, if_pos HK2.out])), HEN.out⟩
              · have hk2 : ((K : Int) == 2) = false := by simp; omega
                have HK2 : Hid (s.tok.kind ≠ 2) := by show s.tok.kind ≠ 2; rw [← HK.out]; exact hk
                go_wp2_with fail
                by_cases hk1 : K = 1
                · have HK1 : Hid (s.tok.kind = 1) := by show s.tok.kind = 1; rw [← HK.out]; exact hk1
                  have HSV : Hid (sg s.tok = 8) := by show _ = _; rw [HSG.out, if_neg HK2.out, if_pos HK1.out]
                  have hNM := g_name_yes HS.out HK1.out
                  rw [← HX.out] at hNM
                  refine hNM.mono ?_
                  rintro en v13 ⟨rfl, hg, hf⟩
                  replace HG := hidden (HS.out.held hf HG.out (by decide) (by decide) (by decide))
                  replace HS := hidden hg
                  replace HF := hidden (HF.out.trans hf)
                  clear hg hf hNM z0
                  have HNX := hidden (kind_some (s := s) (by rw [HK1.out]; decide))
                  go_wp2_with fail
                  refine (g_is lp HS.out).mono ?_
                  rintro en v14 ⟨rfl, hb⟩
                  replace HG := hidden (HG.out.since hb)
                  replace HS := hidden (HS.out.below hb)
                  replace HF := hidden (HF.out.trans (Fr.of_below _ hb))
                  clear hb
                  have z3 := HG.out.t3
                  cases hc : s.next.is lp with
                  | true =>
                    have HC := hidden hc
                    clear hc
                    go_wp2_with fail
                    refine wp_veil ?_
                    go_wp2_with fail
                    refine (call_of HE.out X A _ _ _ _ HS.out hd (by have := HM.out; have := HNX.out; omega)).mono ?_
                    rintro en x9 ⟨v, hrd, hEn⟩
                    obtain ⟨k9, rfl⟩ := hEn.val
                    have HEN := hidden (hEn.trans HF.out rfl)
                    have HRD := hidden hrd
                    clear hEn hrd
                    go_wp2_with fail
                    go_ret
                    exact ⟨_, Reads.single_call HSV.out HC.out (by rw [← HX.out, ← HA.out]; exact HRD.out), HEN.out⟩
                  | false =>
                    have HC := hidden hc
                    clear hc
                    go_wp2_with fail
                    refine wp_veil ?_
                    go_wp2_with fail
                    refine (put_leaf 4 0 X A HS.out (by have := HSZ.out; have := HNX.out; have e : s.next.l = s.l := rfl; rw [e]; omega)).mono ?_
                    rintro en x9 hEn
                    obtain ⟨k9, rfl⟩ := hEn.val
                    have HEN := hidden (hEn.trans HF.out rfl)
                    clear hEn
                    go_wp2_with fail
                    go_ret
                    exact ⟨_, (by rw [HA.out, HX.out]; exact Reads.single_var HSV.out HC.out), HEN.out⟩
                · have HK1 : Hid (s.tok.kind ≠ 1) := by show s.tok.kind ≠ 1; rw [← HK.out]; exact hk1
                  have HSV : Hid (sg s.tok = 0) := by show _ = _; rw [HSG.out, if_neg HK2.out, if_neg HK1.out]
                  refine (g_name_no HS.out HK1.out).mono ?_
                  rintro en v15 ⟨rfl, hg, hf⟩
                  replace HG := hidden (HS.out.held hf HG.out (by decide) (by decide) (by decide))
                  have HD := hidden hg
                  replace HF := hidden (HF.out.trans hf)
                  clear hg hf z0
                  go_wp2_with fail
                  refine (b_is lp HD.out).mono ?_
                  rintro en v16 ⟨rfl, hb⟩
                  replace HG := hidden (HG.out.since hb)
                  replace HD := hidden (HD.out.below hb)
                  replace HF := hidden (HF.out.trans (Fr.of_below _ hb))
                  clear hb
                  have z3 := HG.out.t3
                  go_wp2_with fail
                  refine wp_veil ?_
                  go_wp2_with fail
                  refine (b_put _ _ _ _ _ HD.out).mono ?_
                  rintro en v17 ⟨rfl, hb⟩
                  replace HD := hidden (HD.out.below hb)
                  replace HF := hidden (HF.out.trans (Fr.of_below _ hb))
                  clear hb
                  go_wp2_with fail
                  go_ret
                  exact ⟨_, Reads.single_no HSV.out, _, HF.out, rfl, .inr ⟨_, rfl, rfl, HD.out⟩⟩
end Go.Proofs.YtagacfcpepoaoaaGreatDoor

namespace Go.Proofs.YtagacfcpepoaoaaGreatDoor
open Go.RowKit
set_option linter.unusedVariables false

variable {B g : Nat} {L : List Tk}
theorem Reads.inner_lt {a b : List UInt8} {d : Nat} {s s' : PS} {l : List Int} (h : Reads (.inner a b) d s (.ok (l, s'))) : s'.l.length + s'.r.length + 1 ≤ s.l.length + s.r.length ∧ s'.r.length + 1 ≤ s.r.length := by
  obtain ⟨n, hn⟩ := h
  cases n with
  | zero => cases hn
  | succ n =>
    rw [rd] at hn
    split at hn
    · rename_i g1
      have hs := slack_is g1
      split at hn
      · cases hn
      · rcases go_ok hn with ⟨e, _, he⟩ | ⟨p2, s3, h3, h4⟩
        · cases he
        · have a := rd_slack n _ _ _ _ h3 _ _ rfl
          have e1 : s.next.l = s.l := rfl
          rw [e1] at a
          split at h4
          · rename_i g2
            have hs2 := slack_is g2
            injection h4 with h4
            injection h4 with h4
            injection h4 with _ h5
            subst h5
            have e3 : s3.next.l = s3.l := rfl
            rw [e3]
            exact ⟨by omega, by omega⟩
          · cases h4
    · cases hn
theorem Bad.held {w w' : World} {R R' : Bx} {d : Nat} {f : Flt} {G : Nat} {t : TypeId} {cs : Array Value} (H : Bad B g L w R d f) (F : Fr g w w' R R') (h : Held w G t cs) (h1 : t ≠ 74) (h2 : t ≠ 59) (h3 : t ≠ 3) : Held w' G t cs := by
  obtain ⟨p, l, h0, H, _⟩ := H
  refine h.block (F.block G h.lt ?_ (own_ne H.own h (fun e => h2 e.symm)) (own_ne H.hts h (fun e => h3 e.symm)))
  intro e
  subst e
  have h4 : w.heap[G]? = _ := H.box
  have h5 : w.heap[G]? = _ := h
  rw [h4] at h5
  injection h5 with h6
  injection h6 with _ h7
  exact h1 h7.symm
/-- indexed on the way -/
def IdxSt (B g : Nat) (L : List Tk) (w : World) (R : Bx) (d : Nat) (s : PS) (t3 : Value) (wr : World) : Prop :=
  ∃ R1, Fr g w wr R R1 ∧ R1.Z = R.Z ∧ (
    (∃ p s1, t3 = .int .i64 p ∧ Good B g L wr R1 d s1 ∧ s1.r.length ≤ s.r.length ∧ s1.l.length + s1.r.length ≤ s.l.length + s.r.length ∧ ∀ v, Reads (.more p) d s1 v → Reads .idx d s v) ∨
    (∃ f, t3 = .int .i64 (-1) ∧ Bad B g L wr R1 d f ∧ Reads .idx d s (.error f)))
set_option maxRecDepth 100000 in
set_option maxHeartbeats 4000000 in
theorem indexed_of {M : Nat} (hE : CExpr B g L M) (w : World) (R : Bx) (d : Nat) (s : PS) (H : Good B g L w R d s) (hd : d ≤ 200) (hM : s.r.length ≤ M + 1) :
    Calls Tryz.prog 103 #[.pointer (some ⟨g, 0, none⟩)] w (Post B g L .idx w R d s) := by
  have HE := hidden hE
  have HI := hidden (inner_of hE)
  have HSZ := hidden H.size
  have HH := hidden H
  have HM := hidden hM
  have hfd := field_at
  clear H hE hM
  go_enter Tryz.func103, Tryz.ntmps103
  rw [veil 5]
  go_wp2_with fail
  refine (single_of HE.out w R d s HH.out hd HM.out).mono ?_
  rintro en w1 ⟨v, hrd, R1, hf, hz, hv⟩
  have HST : Hid (∃ k, en = .returned (.int .i64 k) ∧ IdxSt B g L w R d s (.int .i64 k) w1) := by
    rcases hv with ⟨k, s1, rfl, rfl, hg⟩ | ⟨f, rfl, rfl, hg⟩
    · have := hrd.slack
      exact ⟨k, rfl, R1, hf, hz, .inl ⟨k, s1, rfl, hg, by omega, by omega, fun v h => hrd.idx h⟩⟩
    · exact ⟨-1, rfl, R1, hf, hz, .inr ⟨f, rfl, hg, hrd.idx_err⟩⟩
  obtain ⟨k, rfl, hst⟩ := HST.out
  replace HST := hidden hst
  clear hrd hf hz hv hst
  go_wp2_with fail
  go_loopw [3] (fun t3 wr => Hid (IdxSt B g L w R d s t3 wr)) (fun _ wr => lam g L.length wr)
  case atStart => exact HST
  case round =>
    obtain ⟨R2, hF, hZ, hst⟩ := hrel.out
    rcases hst with ⟨p, s1, rfl, hG, hle, hsl, hcont⟩ | ⟨f, rfl, hG, hrd⟩
    · have HF := hidden hF
      have HZ := hidden hZ
      have HS := hidden hG
      have HLAM := hidden hG.lam
      have HLE := hidden hle
      have HSL := hidden hsl
      have HC := hidden hcont
      clear hrel hF hZ hG hle hsl hcont
      go_wp2_with fail
      refine (g_is lb HS.out).mono ?_
      rintro en x1 ⟨rfl, hb⟩
      replace HS := hidden (HS.out.below hb)
      replace HF := hidden (HF.out.trans (Fr.of_below _ hb))
      clear hb
      cases hlb : s1.is lb with
      | false =>
        have HLB := hidden hlb
        clear hlb
        go_wp2_with fail
        go_ret
        exact ⟨_, HC.out _ (Reads.more_end HLB.out), R2, HF.out, HZ.out, .inl ⟨p, s1, rfl, rfl, HS.out⟩⟩
      | true =>
        have HLB := hidden hlb
        clear hlb
        go_wp2_with fail
        refine (g_token HS.out).mono ?_
        rintro en x2 ⟨rfl, hb⟩
        replace HS := hidden (HS.out.below hb)
        replace HF := hidden (HF.out.trans (Fr.of_below _ hb))
        clear hb
        go_wp2_with fail
        refine (HI.out lb rb _ _ _ _ HS.out hd (by have := HM.out; have := HLE.out; omega)).mono ?_
        rintro en x3 ⟨v, hrd, R3, hf, hz, hv⟩
        have HRD := hidden hrd
        replace HF := hidden (HF.out.trans hf)
        have HZ3 : Hid (R3.Z = R.Z) := hz.trans HZ.out
        clear hrd hf hz
        rcases hv with ⟨q, s2, rfl, rfl, hg⟩ | ⟨f, rfl, rfl, hg⟩
        · have HS3 := hidden hg
          have HLT := hidden HRD.out.inner_lt
          clear hg
          go_wp2_with fail
          refine wp_veil ?_
          go_wp2_with fail
          have HNW := hidden (now_new x3 [p, q] #[.int .i64 p, .int .i64 q] rfl (by simp) 2 rfl)
          have HBA : Hid (Below x3.heap.size x3 (x3.alloc (.cells #[.int .i64 p, .int .i64 q] 3))) := (Below.refl _ _).alloc (Nat.le_refl _) _
          refine (g_put (B' := x3.heap.size) ⟨8, some ⟨x3.heap.size, 0, none⟩, 2, [p, q], 0, ⟨#[]⟩, (s1.tok.place : Int)⟩ s1.tok.place (HS3.out.below HBA.out) HNW.out (by have := HLT.out; have := HSL.out; have := HSZ.out; omega) (by simp) rfl).mono ?_
          rintro en x4 ⟨R4, hf2, hz2, hv2⟩
          have HF2 := hidden ((HF.out.trans (Fr.of_below _ HBA.out)).trans hf2)
          have HZ4 : Hid (R4.Z = R.Z) := hz2.trans HZ3.out
          clear hf2 hz2
          rcases hv2 with ⟨k2, s3, hlay, rfl, hg⟩ | ⟨f, hlay, rfl, hg⟩
          · have HLY := hidden hlay
            have HG := hidden hg
            have HL4 := hidden hg.lam
            have HLS := hidden (lay_slack hlay)
            clear hlay hg
            go_wp2_with fail
            go_roundw
            case rel => exact ⟨R4, HF2.out, HZ4.out, .inl ⟨k2, s3, rfl, HG.out, by have := HLS.out; have := HLT.out; have := HLE.out; rw [HLS.out.2.1]; omega, by have := HLS.out; have := HLT.out; have := HSL.out; rw [HLS.out.2.1]; omega, fun v h => HC.out _ (Reads.more_next HLB.out HRD.out HLY.out h)⟩⟩
            case measure => show lam g L.length x4 < lam g L.length _; rw [HL4.out, HLAM.out, HLS.out.2.1]; have := HLT.out; omega
          · have HLY := hidden hlay
            have HG := hidden hg
            have HL4 := hidden hg.lam
            clear hlay hg
            go_wp2_with fail
            go_roundw
            case rel => exact ⟨R4, HF2.out, HZ4.out, .inr ⟨f, rfl, HG.out, HC.out _ (Reads.more_high HLB.out HRD.out HLY.out)⟩⟩
            case measure => show lam g L.length x4 < lam g L.length _; rw [HL4.out, HLAM.out]; have := HLT.out; omega
        · have HS3 := hidden hg
          clear hg
          go_wp2_with fail
          refine wp_veil ?_
          go_wp2_with fail
          have HBA : Hid (Below x3.heap.size x3 (x3.alloc (.cells #[.int .i64 p, .int .i64 (-1)] 3))) := (Below.refl _ _).alloc (Nat.le_refl _) _
          refine (b_put _ _ _ _ _ (HS3.out.below HBA.out)).mono ?_
          rintro en x4 ⟨rfl, hb⟩
          have HB4 := hidden (below_then HBA.out hb)
          have HS4 := hidden (HS3.out.below HB4.out)
          have HF4 := hidden (HF.out.trans (Fr.of_below _ HB4.out))
          have HL4 := hidden HS4.out.lam
          have HPO := hidden (is_some HLB.out)
          clear hb
          go_wp2_with fail
          go_roundw
          case rel => exact ⟨R3, HF4.out, HZ3.out, .inr ⟨f, rfl, HS4.out, HC.out _ (Reads.more_err HLB.out HRD.out)⟩⟩
          case measure => show lam g L.length x4 < lam g L.length _; rw [HL4.out, HLAM.out]; have := HPO.out; omega
    · have HF := hidden hF
      have HZ := hidden hZ
      have HS := hidden hG
      have HRD := hidden hrd
      clear hrel hF hZ hG hrd
      go_wp2_with fail
      refine (b_is lb HS.out).mono ?_
      rintro en x1 ⟨rfl, hb⟩
      replace HS := hidden (HS.out.below hb)
      replace HF := hidden (HF.out.trans (Fr.of_below _ hb))
      clear hb
      go_wp2_with fail
      go_ret
      exact ⟨_, HRD.out, R2, HF.out, HZ.out, .inr ⟨f, rfl, rfl, HS.out⟩⟩
def CFront (B g : Nat) (L : List Tk) (M : Nat) : Prop := ∀ w R d s, Good B g L w R d s → d ≤ 200 → s.r.length ≤ M → Calls Tryz.prog 98 #[.pointer (some ⟨g, 0, none⟩)] w (Post B g L .front w R d s)
def fsign (k : Nat) : List UInt8 := if k = 0 then minus else bang
def fkind (k : Nat) : Int := if k = 0 then 6 else 7
set_option maxRecDepth 100000 in
set_option maxHeartbeats 4000000 in
theorem fronted_of {M : Nat} (hE : CExpr B g L M) (hFr : CFront B g L M) : CFront B g L (M + 1) := by
  intro w R d s H hd hM
  have HE := hidden hE
  have HFR := hidden hFr
  have HSZ := hidden H.size
  have HH := hidden H
  have HM := hidden hM
  have HTK := hidden (g_token H)
  obtain ⟨A, hA⟩ : ∃ A, A = s.tok.place := ⟨_, rfl⟩
  rw [← hA] at HTK
  have HA := hidden hA
  have hfd := field_at
  clear H hE hM hFr hA
  go_enter Tryz.func98, Tryz.ntmps98
  rw [veil 5, veil 9]
  go_wp2_with fail
  refine HTK.out.mono ?_
  rintro en w1 ⟨rfl, hb⟩
  have HB := hidden hb
  clear hb
  obtain ⟨tt, fr, hg⟩ := (HH.out.below HB.out).tabs.front
  have HTB := hidden hg
  clear hg
  go_wp2_with (refine wpList_load_row rfl 109 _ rfl 4 rfl tt _ fr _ HTB.out Tryz.underlying109 rfl (by kernel_rfl) ?_)
  go_loopw [11] (fun t11 wr => ∃ k : Nat, k ≤ 2 ∧ t11 = .int .i64 (k : Int) ∧ Hid (Below w.heap.size w wr) ∧ Hid (∀ j, j < k → s.is (fsign j) = false)) (fun t11 _ => 2 - (intOf t11).toNat)
  case atStart => exact ⟨0, by omega, rfl, HB, fun j hj => by omega⟩
  case round =>
    obtain ⟨k, hk, rfl, HBr, HNO⟩ := hrel
    by_cases hlt : k < 2
    · have hix : ∀ w, (Instr.index 109 (.agg frontCells) (.int .i64 (k : Int))).run Tryz.prog w = .ok (.agg #[.string ⟨(fsign k).toArray⟩, .int .i64 (fkind k)]) w := front_ix k hlt
      obtain ⟨c, hc⟩ : ∃ c, c = fsign k := ⟨_, rfl⟩
      obtain ⟨m, hm⟩ : ∃ m : Int, m = fkind k := ⟨_, rfl⟩
      rw [← hc, ← hm] at hix
      have HC := hidden hc
      have HKM := hidden hm
      clear hc hm
      go_wp2_with fail
      obtain ⟨W, hW⟩ : ∃ W, W = wr.alloc (.cells #[.string ⟨c.toArray⟩, .int .i64 m] 108) := ⟨_, rfl⟩
      obtain ⟨G, hG⟩ : ∃ G, G = wr.heap.size := ⟨_, rfl⟩
      have HG : Hid (Held W G 108 #[.string ⟨c.toArray⟩, .int .i64 m]) := by rw [hW, hG]; exact Held.new _ _ _
      have z0 : W.cell? ⟨G, 0, none⟩ = some (.string ⟨c.toArray⟩) := HG.out.at_ rfl
      have HB2 : Hid (Below w.heap.size w W) := by rw [hW]; exact HBr.out.alloc HBr.out.size _
      have HS := hidden (HH.out.below HB2.out)
      have HF : Hid (Fr g w W R R) := Fr.of_below R HB2.out
      rw [← hW, ← hG]
      clear hW hG
      refine wp_veil ?_
      go_wp2_with fail
      cases hsc : s.is c with
      | false =>
        have HSC := hidden hsc
        clear hsc
        refine (g_skip_no c HS.out HSC.out).mono ?_
        rintro en w2 ⟨rfl, hb⟩
        have HB3 := hidden (below_then HB2.out hb)
        clear hb
        go_wp2_with fail
        go_roundw
        case rel => exact ⟨k + 1, by omega, by go_num, HB3, fun j hj => by
          rcases Nat.lt_or_ge j k with g1 | g1
          · exact HNO.out j g1
          · rw [show j = k by omega, ← HC.out]; exact HSC.out⟩
        case measure => simp [intOf]; omega
      | true =>
        have HSC := hidden hsc
        clear hsc
        have HMB : Hid (s.is minus = true ∨ s.is bang = true) := by
          have h1 := HSC.out
          rw [HC.out] at h1
          unfold fsign at h1
          split at h1
          · exact .inl h1
          · exact .inr h1
        have HMK : Hid ((if s.is minus then (6 : Int) else 7) = m) := by
          show _ = m
          rw [HKM.out]
          rcases (show k = 0 ∨ k = 1 by omega) with h0 | h0
          · subst h0
            have h1 := HSC.out
            rw [HC.out] at h1
            rw [if_pos (show s.is minus = true from h1)]
            rfl
          · subst h0
            rw [if_neg (by rw [show s.is minus = false from HNO.out 0 (by omega)]; decide)]
            rfl
        have HNX := hidden (is_some HSC.out)
        refine (g_skip_yes c HS.out HSC.out).mono ?_
        rintro en w2 ⟨rfl, hg, hf⟩
        replace HG := hidden (HS.out.held hf HG.out (by decide) (by decide) (by decide))
        replace HS := hidden hg
        replace HF := hidden (HF.out.trans hf)
        clear hg hf z0
        go_wp2_with fail
        by_cases hdeep : 200 ≤ d
        · have HD := hidden hdeep
          refine (g_open_deep A HS.out hdeep (by omega)).mono ?_
          rintro en w3 ⟨rfl, hg, hf⟩
          replace HG := hidden (HS.out.held hf HG.out (by decide) (by decide) (by decide))
          have HX := hidden hg
          replace HF := hidden (HF.out.trans hf)
          clear hg hf
          go_wp2_with fail
          refine (fronted_bad HX.out).mono ?_
          rintro en w4 ⟨rfl, hb⟩
          replace HG := hidden (HG.out.since hb)
          replace HX := hidden (HX.out.below hb)
          replace HF := hidden (HF.out.trans (Fr.of_below _ hb))
          clear hb
          go_wp2_with fail
          refine (b_close HX.out (by omega)).mono ?_
          rintro en w5 ⟨⟨v, rfl⟩, hg, hf⟩
          replace HG := hidden (HX.out.held hf HG.out (by decide) (by decide) (by decide))
          replace HX := hidden hg
          replace HF := hidden (HF.out.trans hf)
          clear hg hf
          have z1 : w5.cell? ⟨G, 1, none⟩ = some (.int .i64 m) := HG.out.at_ rfl
          go_wp2_with fail
          refine wp_veil ?_
          go_wp2_with fail
          have HBA : Hid (Below w5.heap.size w5 (w5.alloc (.cells #[.int .i64 (-1)] 3))) := (Below.refl _ _).alloc (Nat.le_refl _) _
          refine (b_put _ _ _ _ _ (HX.out.below HBA.out)).mono ?_
          rintro en w6 ⟨rfl, hb⟩
          have HB6 := hidden (below_then HBA.out hb)
          clear hb
          go_wp2_with fail
          go_ret
          exact ⟨_, by rw [HA.out] at HX; exact Reads.front_deep HMB.out HD.out, R, HF.out.trans (Fr.of_below _ HB6.out), rfl, .inr ⟨_, rfl, rfl, by rw [← HA.out]; exact HX.out.below HB6.out⟩⟩
        · have hd2 : d < 200 := by omega
          refine (g_open_ok A HS.out hd2).mono ?_
          rintro en w3 ⟨rfl, hg, hf⟩
          replace HG := hidden (HS.out.held hf HG.out (by decide) (by decide) (by decide))
          replace HS := hidden hg
          replace HF := hidden (HF.out.trans hf)
          clear hg hf
          go_wp2_with fail
          refine (HFR.out _ _ _ _ HS.out (by omega) (by have := HNX.out; have := HM.out; omega)).mono ?_
          rintro en w4 ⟨v, hrd, R3, hf, hz, hv⟩
          have HRD := hidden hrd
          replace HG := hidden (HS.out.held hf HG.out (by decide) (by decide) (by decide))
          replace HF := hidden (HF.out.trans hf)
          have HZ := hidden hz
          clear hrd hf hz
          rcases hv with ⟨q, s1, rfl, rfl, hg⟩ | ⟨f, rfl, rfl, hg⟩
          · replace HS := hidden hg
            have HSL := hidden HRD.out.slack
            clear hg
            go_wp2_with fail
            refine (g_close HS.out (by omega)).mono ?_
            rintro en w5 ⟨⟨v, rfl⟩, hg, hf⟩
            replace HG := hidden (HS.out.held hf HG.out (by decide) (by decide) (by decide))
            replace HS := hidden hg
            replace HF := hidden (HF.out.trans hf)
            clear hg hf
            have z1 : w5.cell? ⟨G, 1, none⟩ = some (.int .i64 m) := HG.out.at_ rfl
            go_wp2_with fail
            refine wp_veil ?_
            go_wp2_with fail
            have HNW := hidden (now_new w5 [q] #[.int .i64 q] rfl (by simp) 1 rfl)
            have HBA : Hid (Below w5.heap.size w5 (w5.alloc (.cells #[.int .i64 q] 3))) := (Below.refl _ _).alloc (Nat.le_refl _) _
            refine (g_put (B' := w5.heap.size) ⟨m, some ⟨w5.heap.size, 0, none⟩, 1, [q], 0, ⟨#[]⟩, (A : Int)⟩ A (HS.out.below HBA.out) HNW.out (by have h1 := HSL.out; have e : s.next.l = s.l := rfl; rw [e] at h1; have := HSZ.out; have := HNX.out; omega) (by simp) rfl).mono ?_
            rintro en w6 hEn
            obtain ⟨k9, rfl⟩ := hEn.val
            have HEN := hidden ((hEn.trans (Fr.of_below _ HBA.out) rfl).trans HF.out HZ.out)
            clear hEn
            go_wp2_with fail
            go_ret
            exact ⟨_, Reads.front_lay HMB.out hd2 HRD.out, by rw [HMK.out, ← HA.out]; exact HEN.out⟩
          · have HX := hidden hg
            clear hg
            go_wp2_with fail
            refine (b_close HX.out (by omega)).mono ?_
            rintro en w5 ⟨⟨v, rfl⟩, hg, hf⟩
            replace HG := hidden (HX.out.held hf HG.out (by decide) (by decide) (by decide))
            replace HX := hidden hg
            replace HF := hidden (HF.out.trans hf)
            clear hg hf
            have z1 : w5.cell? ⟨G, 1, none⟩ = some (.int .i64 m) := HG.out.at_ rfl
            go_wp2_with fail
            refine wp_veil ?_
            go_wp2_with fail
            have HBA : Hid (Below w5.heap.size w5 (w5.alloc (.cells #[.int .i64 (-1)] 3))) := (Below.refl _ _).alloc (Nat.le_refl _) _
            refine (b_put _ _ _ _ _ (HX.out.below HBA.out)).mono ?_
            rintro en w6 ⟨rfl, hb⟩
            have HB6 := hidden (below_then HBA.out hb)
            clear hb
            go_wp2_with fail
            go_ret
            exact ⟨_, Reads.front_err HMB.out hd2 HRD.out, R3, HF.out.trans (Fr.of_below _ HB6.out), HZ.out, .inr ⟨f, rfl, rfl, HX.out.below HB6.out⟩⟩
    · obtain rfl : k = 2 := by omega
      go_wp2_with fail
      refine (indexed_of HE.out wr R d s (HH.out.below HBr.out) hd HM.out).mono ?_
      rintro en w2 ⟨v, hrd, hEn⟩
      obtain ⟨k9, rfl⟩ := hEn.val
      have HEN := hidden (hEn.trans (Fr.of_below R HBr.out) rfl)
      have HRD := hidden hrd
      clear hEn hrd
      go_wp2_with fail
      go_ret
      exact ⟨_, Reads.front_none (HNO.out 0 (by omega)) (HNO.out 1 (by omega)) HRD.out, HEN.out⟩
end Go.Proofs.YtagacfcpepoaoaaGreatDoor
