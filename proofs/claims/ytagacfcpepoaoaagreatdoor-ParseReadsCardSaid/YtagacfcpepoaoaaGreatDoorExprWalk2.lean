/- The walks through the reader's arguments and Call. -/
import Derived.Test.YtagacfcpepoaoaaGreatDoorExprWalk
namespace Go.Proofs.YtagacfcpepoaoaaGreatDoor
open Go.RowKit
set_option linter.unusedVariables false

variable {B g : Nat} {L : List Tk}
theorem Fr.rez {g : Nat} {w w' : World} {R R' : Bx} (F : Fr g w w' R R') (Z Z' : Nat → Prop) : Fr g w w' { R with Z := Z } { R' with Z := Z' } := ⟨F.os, F.tape, F.output, F.size, F.block, F.vn, F.vh⟩
theorem Fr.right {g : Nat} {w w' : World} {R R' : Bx} (F : Fr g w w' R R') (Z' : Nat → Prop) : Fr g w w' R { R' with Z := Z' } := ⟨F.os, F.tape, F.output, F.size, F.block, F.vn, F.vh⟩
/-- behind a number that is put, nothing else has turned -/
theorem good_push {w w2 w3 : World} {R R2 : Bx} {d : Nat} {s2 : PS} {t3 v3 : Value} {acc : List Int} {k : Int} {cs : Array Value} (HS : Good B g L w2 R2 d s2) (HF : Fr g w w2 R R2) (hZ : R2.Z = fun k => R.Z k ∨ t3.ownBlock = some k) (hN : Now w.heap.size w2 t3 acc) (hb : xTop ≤ w.heap.size)
    (h3 : Now w.heap.size w3 v3 (acc ++ [k])) (hg : (w2.alloc (.cells cs 3)).grownBy w3 t3.ownBlock) (hw : ∀ k, v3.ownBlock = some k → t3.ownBlock = some k ∨ k = (w2.alloc (.cells cs 3)).heap.size) :
    ∃ R3, (R3.Z = fun k => R.Z k ∨ v3.ownBlock = some k) ∧ Good B g L w3 R3 d s2 ∧ Fr g w w3 R R3 := by
  have hB : Below w2.heap.size w2 (w2.alloc (.cells cs 3)) := (Below.refl _ _).alloc (Nat.le_refl _) _
  have hv := own_below hN hB
  refine ⟨{ R2 with Z := fun k => R.Z k ∨ v3.ownBlock = some k }, rfl, HS.wider hB hv hb (fun k hk => by rw [hZ]; exact .inr hk) hg _ (fun k hk => ?_), fr_foreign HF hB hv hg _⟩
  rcases hk with hk | hk
  · exact .inl (by rw [hZ]; exact .inl hk)
  · rcases hw k hk with h1 | h1
    · exact .inl (by rw [hZ]; exact .inr h1)
    · exact .inr ⟨by rw [h1]; simp, (World.ownsRow.lt h3 k hk).2⟩
theorem bad_push {w w2 w3 : World} {R R2 : Bx} {d : Nat} {f : Flt} {t3 : Value} {acc : List Int} {cs : Array Value} (HS : Bad B g L w2 R2 d f) (HF : Fr g w w2 R R2) (hZ : R2.Z = fun k => R.Z k ∨ t3.ownBlock = some k) (hN : Now w.heap.size w2 t3 acc) (hb : xTop ≤ w.heap.size)
    (hg : (w2.alloc (.cells cs 3)).grownBy w3 t3.ownBlock) : ∃ R3, R3.Z = R.Z ∧ Bad B g L w3 R3 d f ∧ Fr g w w3 R R3 := by
  have hB : Below w2.heap.size w2 (w2.alloc (.cells cs 3)) := (Below.refl _ _).alloc (Nat.le_refl _) _
  have hv := own_below hN hB
  exact ⟨{ R2 with Z := R.Z }, rfl, (HS.foreign hB hv hb (fun k hk => by rw [hZ]; exact .inr hk) hg).less _ (fun k hk => by rw [hZ]; exact .inl hk), fr_foreign HF hB hv hg _⟩
set_option maxRecDepth 100000 in
set_option maxHeartbeats 4000000 in
theorem args_of {M : Nat} (hE : CExpr B g L M) (w : World) (R : Bx) (d : Nat) (s : PS) (H : Good B g L w R d s) (hd : d ≤ 200) (hM : s.r.length ≤ M) :
    Calls Tryz.prog 108 #[.pointer (some ⟨g, 0, none⟩)] w (PostG B g L w R d s) := by
  have HE := hidden hE
  have HH := hidden H
  have HM := hidden hM
  have HTS : Hid (xTop ≤ w.heap.size) := H.tabs.size
  have hfd := field_at
  clear H hE hM
  go_enter Tryz.func108, Tryz.ntmps108
  go_wp2_with fail
  refine (g_is rp HH.out).mono ?_
  rintro en w1 ⟨rfl, hb⟩
  have HB := hidden hb
  clear hb
  cases hr : s.is rp with
  | true =>
    have HR := hidden hr
    clear hr
    go_wp2_with fail
    go_ret
    exact ⟨{ R with Z := fun k => R.Z k ∨ (Value.slice none 0 0).ownBlock = some k }, (Fr.of_below R HB.out).right _, .inl ⟨[], s, _, rfl, ⟨rfl, .inl ⟨rfl, rfl⟩⟩, by simp, rfl, (HH.out.below HB.out).less _ (fun k hk => hk.elim id (fun h => by simp [Value.ownBlock] at h)), .inl ⟨HR.out, rfl, rfl⟩⟩⟩
  | false =>
    have HR := hidden hr
    clear hr
    go_wp2_with fail
    go_loopw [3, 4] (fun t3 t4 wr => Hid (ArgSt B g L w R d s t3 t4 wr)) (fun _ t4 wr => boolN t4 * (1 + lam g L.length wr))
    case atStart => exact ⟨{ R with Z := fun k => R.Z k ∨ (Value.slice none 0 0).ownBlock = some k }, (Fr.of_below R HB.out).right _, .inl ⟨[], s, rfl, ⟨rfl, .inl ⟨rfl, rfl⟩⟩, by simp, rfl, (HH.out.below HB.out).less _ (fun k hk => hk.elim id (fun h => by simp [Value.ownBlock] at h)), Nat.le_refl _, fun v h => h⟩⟩
    case round =>
      obtain ⟨R1, hF, hst⟩ := hrel.out
      rcases hst with ⟨acc, s1, rfl, hN, hlen, hZ, hG, hle, hcont⟩ | ⟨l, s', rfl, hN, hlen, hZ, hG, hrd⟩ | ⟨f, a, n, c, rfl, rfl, hZ, hG, hrd⟩
      · have HF := hidden hF
        have HN := hidden hN
        have HZ := hidden hZ
        have HS := hidden hG
        have HLE := hidden hle
        have HC := hidden hcont
        have HLAM := hidden hG.lam
        obtain ⟨ta, tc, rfl⟩ := own_shape5 hN
        obtain ⟨A, hA⟩ : ∃ A, A = acc.length := ⟨_, rfl⟩
        have HA := hidden hA
        rw [← hA] at hlen
        clear hrel hF hN hZ hG hle hcont
        have HZK : Hid (∀ k, (Value.slice ta acc.length tc).ownBlock = some k → R1.Z k) := fun k hk => by rw [HZ.out]; exact .inr hk
        have HWB : Hid (w.heap.size ≤ wr.heap.size) := HF.out.size
        rw [← hA] at HN HZ HZK ⊢
        clear hA
        by_cases h8 : A = 8
        · have h8i : ((A : Int) == 8) = true := by simp; omega
          have HA8 : Hid (acc.length = 8) := by show _ = _; rw [← HA.out]; exact h8
          clear h8
          go_wp2_with fail
          refine (g_token HS.out).mono ?_
          rintro en w2 ⟨rfl, hb⟩
          have HS2 := hidden (HS.out.below hb)
          have HF2 := hidden (Fr.of_below (g := g) R1 hb)
          clear hb
          go_wp2_with fail
          refine (g_fail 3 s1.tok.place (by decide) HS2.out).mono ?_
          rintro en w3 ⟨⟨v, rfl⟩, hg, hf⟩
          have HS3 := hidden hg
          have HF3 := hidden (HF2.out.trans hf)
          clear hg hf
          go_wp2_with fail
          refine (expr_bad HS3.out).mono ?_
          rintro en w4 ⟨rfl, hb⟩
          have HS4 := hidden (HS3.out.below hb)
          have HF4 := hidden (HF3.out.trans (Fr.of_below _ hb))
          clear hb
          have HN4 := hidden (HN.out.keep HS.out HZK.out HF4.out)
          have hB4 : w.heap.size ≤ w4.heap.size := by have := HWB.out; have := HF4.out.size; omega
          go_wp2_with (at_builtin; refine wpList_kid rfl (.tmp 18) (.tmp 21) rfl w.heap.size w4 (.slice ta A tc) acc (-1) rfl rfl HN4.out hB4 (by have := HA.out; omega) ?_; intro v5 w5 hr5 hg5 hw5; obtain ⟨ga, gc, hv5⟩ := own_shape5 hr5; have HP := hidden (bad_push HS4.out (HF.out.trans HF4.out) HZ.out HN4.out HTS.out hg5); clear hr5 hg5 hw5; subst hv5)
          obtain ⟨R5, hz5, hb5, hf5⟩ := HP.out
          have HS5 := hidden hb5
          have HF5 := hidden hf5
          have HZ5 := hidden hz5
          clear HP hz5 hb5 hf5
          go_wp2_with fail
          refine (b_skip comma HS5.out).mono ?_
          rintro en w6 ⟨rfl, hb⟩
          have HS6 := hidden (HS5.out.below hb)
          have HF6 := hidden (HF5.out.trans (Fr.of_below _ hb))
          clear hb
          go_wp2_with fail
          go_roundw
          case rel => exact ⟨R5, HF6.out, .inr (.inr ⟨_, _, _, _, rfl, rfl, HZ5.out, HS6.out, HC.out _ (Reads.args_long HA8.out)⟩)⟩
          case measure => show 0 * _ < 1 * _; rw [HLAM.out]; omega
        · have h8i : ((A : Int) == 8) = false := by simp; omega
          have HA8 : Hid (acc.length ≠ 8) := by show _ ≠ _; rw [← HA.out]; exact h8
          go_wp2_with fail
          refine (HE.out _ _ _ _ HS.out hd (by have := HLE.out; have := HM.out; omega)).mono ?_
          rintro en w4 ⟨v, hrd, R4, hf, hz, hv⟩
          have HRD := hidden hrd
          have HF4 := hidden hf
          have HZ4 : Hid (R4.Z = fun k => R.Z k ∨ (Value.slice ta A tc).ownBlock = some k) := hz.trans HZ.out
          have HN4 := hidden (HN.out.keep HS.out HZK.out HF4.out)
          have hB4 : w.heap.size ≤ w4.heap.size := by have := HWB.out; have := HF4.out.size; omega
          clear hrd hf hz
          rcases hv with ⟨k, s2, rfl, rfl, hg⟩ | ⟨f, rfl, rfl, hg⟩
          · have HS4 := hidden hg
            have HSL := hidden HRD.out.slack
            clear hg
            go_wp2_with (at_builtin; refine wpList_kid rfl (.tmp 18) (.tmp 21) rfl w.heap.size w4 (.slice ta A tc) acc k rfl rfl HN4.out hB4 (by have := HA.out; omega) ?_; intro v5 w5 hr5 hg5 hw5; obtain ⟨ga, gc, hv5⟩ := own_shape5 hr5; rw [List.length_append, List.length_singleton] at hv5; have HP := hidden (good_push HS4.out (HF.out.trans HF4.out) HZ4.out HN4.out HTS.out hr5 hg5 hw5); have HR5 := hidden hr5; clear hr5 hg5 hw5; subst hv5)
            obtain ⟨R5, hz5, hb5, hf5⟩ := HP.out
            have HS5 := hidden hb5
            have HF5 := hidden hf5
            have HZ5 := hidden hz5
            have HL5 : Hid ((acc ++ [k]).length ≤ 8) := by show _ ≤ _; rw [List.length_append, ← HA.out]; show A + 1 ≤ 8; omega
            clear HP hz5 hb5 hf5
            go_wp2_with fail
            have HZK5 : Hid (∀ j, (Value.slice ga (acc.length + 1) gc).ownBlock = some j → R5.Z j) := fun j hj => by rw [HZ5.out]; exact .inr hj
            cases hc : s2.is comma with
            | true =>
              have HCM := hidden hc
              clear hc
              refine (g_skip_yes comma HS5.out HCM.out).mono ?_
              rintro en w6 ⟨rfl, hg, hf⟩
              have HS6 := hidden hg
              have HF6 := hidden (HF5.out.trans hf)
              have HN6 := hidden (HR5.out.keep HS5.out HZK5.out hf)
              have HL6 := hidden hg.lam
              have HNX := hidden (is_some HCM.out)
              clear hg hf
              go_wp2_with fail
              go_roundw
              case rel => exact ⟨R5, HF6.out, .inl ⟨acc ++ [k], s2.next, rfl, HN6.out, HL5.out, HZ5.out, HS6.out, by have := HNX.out; have := HSL.out; have := HLE.out; omega, fun v h => HC.out _ (Reads.args_next HA8.out HRD.out HCM.out h)⟩⟩
              case measure => show 1 * (1 + lam g L.length w6) < 1 * (1 + lam g L.length _); rw [HLAM.out, HL6.out]; have := HNX.out; have := HSL.out; omega
            | false =>
              have HCM := hidden hc
              clear hc
              refine (g_skip_no comma HS5.out HCM.out).mono ?_
              rintro en w6 ⟨rfl, hb⟩
              have HS6 := hidden (HS5.out.below hb)
              have HF6 := hidden (HF5.out.trans (Fr.of_below _ hb))
              have HN6 := hidden (HR5.out.keep HS5.out HZK5.out (Fr.of_below R5 hb))
              clear hb
              go_wp2_with fail
              go_roundw
              case rel => exact ⟨R5, HF6.out, .inr (.inl ⟨acc ++ [k], s2, rfl, HN6.out, HL5.out, HZ5.out, HS6.out, HC.out _ (Reads.args_end HA8.out HRD.out HCM.out)⟩)⟩
              case measure => show 0 * _ < 1 * _; rw [HLAM.out]; omega
          · have HS4 := hidden hg
            clear hg
            go_wp2_with (at_builtin; refine wpList_kid rfl (.tmp 18) (.tmp 21) rfl w.heap.size w4 (.slice ta A tc) acc (-1) rfl rfl HN4.out hB4 (by have := HA.out; omega) ?_; intro v5 w5 hr5 hg5 hw5; obtain ⟨ga, gc, hv5⟩ := own_shape5 hr5; have HP := hidden (bad_push HS4.out (HF.out.trans HF4.out) HZ4.out HN4.out HTS.out hg5); clear hr5 hg5 hw5; subst hv5)
            obtain ⟨R5, hz5, hb5, hf5⟩ := HP.out
            have HS5 := hidden hb5
            have HF5 := hidden hf5
            have HZ5 := hidden hz5
            clear HP hz5 hb5 hf5
            go_wp2_with fail
            refine (b_skip comma HS5.out).mono ?_
            rintro en w6 ⟨rfl, hb⟩
            have HS6 := hidden (HS5.out.below hb)
            have HF6 := hidden (HF5.out.trans (Fr.of_below _ hb))
            clear hb
            go_wp2_with fail
            go_roundw
            case rel => exact ⟨R5, HF6.out, .inr (.inr ⟨_, _, _, _, rfl, rfl, HZ5.out, HS6.out, HC.out _ (Reads.args_err HA8.out HRD.out)⟩)⟩
            case measure => show 0 * _ < 1 * _; rw [HLAM.out]; omega
      · have HF := hidden hF
        have HN := hidden hN
        have HZ := hidden hZ
        have HS := hidden hG
        have HRD := hidden hrd
        have HLN := hidden hlen
        clear hrel hF hN hZ hG hrd hlen
        go_wp2_with fail
        go_ret
        exact ⟨R1, HF.out, .inl ⟨l, s', _, rfl, HN.out, HLN.out, HZ.out, HS.out, .inr ⟨HR.out, HRD.out⟩⟩⟩
      · have HF := hidden hF
        have HZ := hidden hZ
        have HS := hidden hG
        have HRD := hidden hrd
        clear hrel hF hZ hG hrd
        go_wp2_with fail
        go_ret
        exact ⟨R1, HF.out, .inr ⟨f, a, n, c, HR.out, HRD.out, rfl, HZ.out, HS.out⟩⟩
set_option maxRecDepth 100000 in
set_option maxHeartbeats 4000000 in
theorem call_of {M : Nat} (hE : CExpr B g L M) (nm : ByteArray) (A : Nat) (w : World) (R : Bx) (d : Nat) (s : PS) (H : Good B g L w R d s) (hd : d ≤ 200) (hM : s.r.length ≤ M + 1) :
    Calls Tryz.prog 105 #[.pointer (some ⟨g, 0, none⟩), .string nm, .int .i64 (A : Int)] w (Post B g L (.call nm A) w R d s) := by
  have HE := hidden hE
  have HS := hidden H
  have HSZ := hidden H.size
  have HM := hidden hM
  have HF : Hid (Fr g w w R R) := Fr.of_below R (Below.refl _ _)
  have hfd := field_at
  clear H hE hM
  go_enter Tryz.func105, Tryz.ntmps105
  rw [veil 7]
  go_wp2_with fail
  refine (g_token HS.out).mono ?_
  rintro en v1 ⟨rfl, hb⟩
  replace HS := hidden (HS.out.below hb)
  replace HF := hidden (HF.out.trans (Fr.of_below _ hb))
  clear hb
  go_wp2_with fail
  cases ha : s.is lp with
  | false =>
    have HA := hidden ha
    clear ha
    refine (g_want_no lp HS.out HA.out).mono ?_
    rintro en v2 ⟨rfl, hg, hf⟩
    replace HS := hidden hg
    replace HF := hidden (HF.out.trans hf)
    clear hg hf
    go_wp2_with fail
    refine (b_open s.tok.place HS.out (by omega)).mono ?_
    rintro en v3 ⟨rfl, hg, hf⟩
    replace HS := hidden hg
    replace HF := hidden (HF.out.trans hf)
    clear hg hf
    go_wp2_with fail
    refine (args_bad HS.out).mono ?_
    rintro en v4 ⟨⟨a, n, c, rfl⟩, hb⟩
    replace HS := hidden (HS.out.below hb)
    replace HF := hidden (HF.out.trans (Fr.of_below _ hb))
    clear hb
    go_wp2_with fail
    refine (b_want rp HS.out).mono ?_
    rintro en v5 ⟨rfl, hb⟩
    replace HS := hidden (HS.out.below hb)
    replace HF := hidden (HF.out.trans (Fr.of_below _ hb))
    clear hb
    go_wp2_with fail
    refine (b_close HS.out (by omega)).mono ?_
    rintro en v6 ⟨⟨v, rfl⟩, hg, hf⟩
    replace HS := hidden hg
    replace HF := hidden (HF.out.trans hf)
    clear hg hf
    go_wp2_with fail
    refine wp_veil ?_
    go_wp2_with fail
    refine (b_put _ _ _ _ _ HS.out).mono ?_
    rintro en v7 ⟨rfl, hb⟩
    replace HS := hidden (HS.out.below hb)
    replace HF := hidden (HF.out.trans (Fr.of_below _ hb))
    clear hb
    go_wp2_with fail
    go_ret
    exact ⟨_, Reads.call_no HA.out, _, HF.out, rfl, .inr ⟨_, rfl, rfl, HS.out⟩⟩
  | true =>
    have HA := hidden ha
    clear ha
    have HNX := hidden (is_some HA.out)
    refine (g_want_yes lp HS.out HA.out).mono ?_
    rintro en v8 ⟨rfl, hg, hf⟩
    replace HS := hidden hg
    replace HF := hidden (HF.out.trans hf)
    clear hg hf
    go_wp2_with fail
    by_cases hdeep : 200 ≤ d
    · have HD := hidden hdeep
      refine (g_open_deep s.tok.place HS.out hdeep (by omega)).mono ?_
      rintro en v9 ⟨rfl, hg, hf⟩
      replace HS := hidden hg
      replace HF := hidden (HF.out.trans hf)
      clear hg hf
      go_wp2_with fail
      refine (args_bad HS.out).mono ?_
      rintro en v10 ⟨⟨a, n, c, rfl⟩, hb⟩
      replace HS := hidden (HS.out.below hb)
      replace HF := hidden (HF.out.trans (Fr.of_below _ hb))
      clear hb
      go_wp2_with fail
      refine (b_want rp HS.out).mono ?_
      rintro en v11 ⟨rfl, hb⟩
      replace HS := hidden (HS.out.below hb)
      replace HF := hidden (HF.out.trans (Fr.of_below _ hb))
      clear hb
      go_wp2_with fail
      refine (b_close HS.out (by omega)).mono ?_
      rintro en v12 ⟨⟨v, rfl⟩, hg, hf⟩
      replace HS := hidden hg
      replace HF := hidden (HF.out.trans hf)
      clear hg hf
      go_wp2_with fail
      refine wp_veil ?_
      go_wp2_with fail
      refine (b_put _ _ _ _ _ HS.out).mono ?_
      rintro en v13 ⟨rfl, hb⟩
      replace HS := hidden (HS.out.below hb)
      replace HF := hidden (HF.out.trans (Fr.of_below _ hb))
      clear hb
      go_wp2_with fail
      go_ret
      exact ⟨_, Reads.call_deep HA.out HD.out, _, HF.out, rfl, .inr ⟨_, rfl, rfl, HS.out⟩⟩
    · have hlt : d < 200 := by omega
      refine (g_open_ok s.tok.place HS.out hlt).mono ?_
      rintro en v14 ⟨rfl, hg, hf⟩
      replace HS := hidden hg
      replace HF := hidden (HF.out.trans hf)
      clear hg hf
      go_wp2_with fail
      refine (args_of HE.out _ _ _ _ HS.out (by omega) (by have := HNX.out; have := HM.out; omega)).mono ?_
      rintro en x1 ⟨R1, hf, hv⟩
      replace HF := hidden (HF.out.trans hf)
      clear hf
      rcases hv with ⟨l, s1, v, rfl, hN, hl, hZ, hG, hrd⟩ | ⟨f, a, n, c, hr, hrd, rfl, hZ, hG⟩
      · obtain ⟨ta, tc, rfl⟩ := own_shape5 hN
        have HN := hidden hN
        have HL := hidden hl
        have HZ := hidden hZ
        have HZK : Hid (∀ k, (Value.slice ta l.length tc).ownBlock = some k → R1.Z k) := fun k hk => by rw [HZ.out]; exact .inr hk
        have HRD := hidden hrd
        replace HS := hidden hG
        have HSL : Hid (s1.l.length + s1.r.length + 1 ≤ s.l.length + s.r.length) := by
          have h0 := HNX.out
          have e : s.next.l = s.l := rfl
          rcases HRD.out with ⟨_, _, h1⟩ | ⟨_, h1⟩
          · show _ ≤ _; rw [h1, e]; omega
          · have h2 := h1.slack; rw [e] at h2; show _ ≤ _; omega
        clear hN hl hZ hrd hG
        go_wp2_with fail
        cases hb : s1.is rp with
        | true =>
          have HBB := hidden hb
          have HNY := hidden (is_some hb)
          clear hb
          refine (g_want_yes rp HS.out HBB.out).mono ?_
          rintro en v15 ⟨rfl, hg, hf⟩
          replace HN := hidden (HN.out.keep HS.out HZK.out hf)
          replace HS := hidden hg
          replace HF := hidden (HF.out.trans hf)
          clear hg hf
          go_wp2_with fail
          refine (g_close HS.out (by omega)).mono ?_
          rintro en v16 ⟨⟨v, rfl⟩, hg, hf⟩
          replace HN := hidden (HN.out.keep HS.out HZK.out hf)
          replace HS := hidden hg
          replace HF := hidden (HF.out.trans hf)
          clear hg hf
          go_wp2_with fail
          refine wp_veil ?_
          go_wp2_with fail
          refine (g_put (B' := _) ⟨11, ta, tc, l, 0, nm, (A : Int)⟩ A HS.out HN.out (by have := HSL.out; have := HNY.out; have := HSZ.out; have e : s1.next.l = s1.l := rfl; rw [e]; omega) (by have := HL.out; show l.length ≤ 100000; omega) rfl).mono ?_
          rintro en x2 ⟨R2, hf2, hz2, hv2⟩
          have HF2 := hidden ((HF.out.trans hf2).right R.Z)
          have HZ2 : Hid (∀ k, R.Z k → R2.Z k) := fun k hk => by rw [hz2, HZ.out]; exact .inl hk
          have HFIN : Hid (Reads (.call nm A) d s (lay (En 11 l 0 nm A) s1.next)) := by
            rcases HRD.out with ⟨h1, h2, h3⟩ | ⟨h1, h2⟩
            · rw [h2, h3]; exact Reads.call_none HA.out hlt h1
            · exact Reads.call_lay HA.out hlt h1 h2 HBB.out
          clear hf2 hz2
          rcases hv2 with ⟨k2, s2, hlay, rfl, hg⟩ | ⟨f, hlay, rfl, hg⟩
          · have HLY := hidden hlay
            have HG := hidden (hg.less R.Z HZ2.out)
            clear hlay hg
            go_wp2_with fail
            go_ret
            exact ⟨_, HFIN.out, _, HF2.out, rfl, .inl ⟨k2, s2, HLY.out, rfl, HG.out⟩⟩
          · have HLY := hidden hlay
            have HG := hidden (hg.less R.Z HZ2.out)
            clear hlay hg
            go_wp2_with fail
            go_ret
            exact ⟨_, HFIN.out, _, HF2.out, rfl, .inr ⟨f, HLY.out, rfl, HG.out⟩⟩
        | false =>
          have HBB := hidden hb
          clear hb
          have HFIN : Hid (Reads (.call nm A) d s (.error (8, s1.tok.place))) := by
            rcases HRD.out with ⟨h1, h2, h3⟩ | ⟨h1, h2⟩
            · have := HBB.out; rw [h3, h1] at this; cases this
            · exact Reads.call_end HA.out hlt h1 h2 HBB.out
          refine (g_want_no rp HS.out HBB.out).mono ?_
          rintro en v17 ⟨rfl, hg, hf⟩
          replace HS := hidden hg
          replace HF := hidden (HF.out.trans hf)
          clear hg hf
          go_wp2_with fail
          refine (b_close HS.out (by omega)).mono ?_
          rintro en v18 ⟨⟨v, rfl⟩, hg, hf⟩
          replace HS := hidden hg
          replace HF := hidden (HF.out.trans hf)
          clear hg hf
          go_wp2_with fail
          refine wp_veil ?_
          go_wp2_with fail
          refine (b_put _ _ _ _ _ HS.out).mono ?_
          rintro en v19 ⟨rfl, hb⟩
          replace HS := hidden (HS.out.below hb)
          replace HF := hidden (HF.out.trans (Fr.of_below _ hb))
          clear hb
          go_wp2_with fail
          go_ret
          exact ⟨_, HFIN.out, _, HF.out.right R.Z, rfl, .inr ⟨_, rfl, rfl, HS.out.less R.Z (fun k hk => by rw [HZ.out]; exact .inl hk)⟩⟩
      · have HRD := hidden hrd
        have HRR := hidden hr
        have HZ := hidden hZ
        replace HS := hidden hG
        clear hr hrd hZ hG
        go_wp2_with fail
        refine (b_want rp HS.out).mono ?_
        rintro en v20 ⟨rfl, hb⟩
        replace HS := hidden (HS.out.below hb)
        replace HF := hidden (HF.out.trans (Fr.of_below _ hb))
        clear hb
        go_wp2_with fail
        refine (b_close HS.out (by omega)).mono ?_
        rintro en v21 ⟨⟨v, rfl⟩, hg, hf⟩
        replace HS := hidden hg
        replace HF := hidden (HF.out.trans hf)
        clear hg hf
        go_wp2_with fail
        refine wp_veil ?_
        go_wp2_with fail
        refine (b_put _ _ _ _ _ HS.out).mono ?_
        rintro en v22 ⟨rfl, hb⟩
        replace HS := hidden (HS.out.below hb)
        replace HF := hidden (HF.out.trans (Fr.of_below _ hb))
        clear hb
        go_wp2_with fail
        go_ret
        exact ⟨_, Reads.call_err HA.out hlt HRR.out HRD.out, _, HF.out, HZ.out, .inr ⟨_, rfl, rfl, HS.out⟩⟩
end Go.Proofs.YtagacfcpepoaoaaGreatDoor
