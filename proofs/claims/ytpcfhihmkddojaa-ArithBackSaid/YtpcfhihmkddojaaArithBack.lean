/- Proved: for any two ints, what package arith tells is as Go's operators tell; what is added is taken away again; a number is its divisor times the quotient, and what is left, which is nearer to 0 than the divisor (statement ArithBack); no condition. -/
import Derived.Test.YtpcfhihmkddojaaRows
import Derived.Test.YtpcfhihmkddojaaArithWorks
import Derived.WalkKit
import Derived.ProofKit
import Derived.OpenShut
import Derived.Deep.DeepCutAuto
namespace Go.Proofs.Ytpcfhihmkddojaa
open Go.ChangeShapes Go.WideShapes Go.ChangeAt Go.RowKit
set_option linter.unusedVariables false

theorem back_own : ownKnob Try.prog.godebug = none := by kernel_rfl

/-- what is added is taken away again -/
theorem sub_back (a b : Int) (w : World) (ha : inI a) (hb : inI b) (hi : inI (a + b)) :
    Calls Try.prog 8 #[.int .i64 (a + b), .int .i64 b] w fun e w' => e = .returned (.tuple #[.int .i64 a, .bool true]) ∧ w' = w := by
  have h := sub_any (a + b) b w hi.1 hi.2 hb.1 hb.2
  rw [show a + b - b = a from by omega, valS_in ha, okS_in ha] at h
  exact h

theorem back_parts (a b : Int) (ha : inI a) (hb : inI b) (hk : okD a b = true) : ∃ Q R T : Int,
    (∀ w, Calls Try.prog 14 #[.int .i64 a, .int .i64 b] w fun e w' => e = .returned (.tuple #[.int .i64 Q, .bool true]) ∧ w' = w) ∧
    (∀ w, Calls Try.prog 16 #[.int .i64 a, .int .i64 b] w fun e w' => e = .returned (.tuple #[.int .i64 R, .bool true]) ∧ w' = w) ∧
    (∀ w, Calls Try.prog 10 #[.int .i64 b, .int .i64 Q] w fun e w' => e = .returned (.tuple #[.int .i64 T, .bool true]) ∧ w' = w) ∧
    (∀ w, Calls Try.prog 6 #[.int .i64 T, .int .i64 R] w fun e w' => e = .returned (.tuple #[.int .i64 a, .bool true]) ∧ w' = w) ∧
    (R = 0 ∨ (R < 0 ∧ a < 0) ∨ (0 < R ∧ 0 ≤ a)) ∧
    ((0 < b ∧ R < b ∧ -b < R) ∨ (b = -9223372036854775808 ∧ b < R) ∨ (b < 0 ∧ ¬ b = -9223372036854775808 ∧ b < R ∧ R < -b)) := by
  have hQ := tdiv_inI ha hk
  have hR := tmod_inI (b := b) ha
  have hs := Int.mul_tdiv_add_tmod a b
  have hr : (a.tmod b).natAbs = a.natAbs % b.natAbs := Int.natAbs_tmod a b
  have hb0 := (okD_true hk).1
  have hlt : a.natAbs % b.natAbs < b.natAbs := Nat.mod_lt _ (by omega)
  have hle : a.natAbs % b.natAbs ≤ a.natAbs := Nat.mod_le _ _
  have hsg : (0 ≤ a → 0 ≤ a.tmod b) ∧ (a < 0 → a.tmod b ≤ 0) := by
    refine ⟨fun h => Int.tmod_nonneg b h, fun h => ?_⟩
    have h3 := Int.tmod_nonneg b (by omega : 0 ≤ -a)
    rw [Int.neg_tmod] at h3
    omega
  have hT : inI (b * a.tdiv b) := by
    generalize b * a.tdiv b = T at *
    generalize a.tmod b = R at *
    unfold inI at *
    omega
  refine ⟨a.tdiv b, a.tmod b, b * a.tdiv b, fun w => ?_, fun w => ?_, fun w => ?_, fun w => ?_, ?_, ?_⟩
  · have h := div_any a b w ha.1 ha.2 hb.1 hb.2
    rw [show valD a b = a.tdiv b from by simp [valD, hk], hk] at h
    exact h
  · have h := mod_any a b w ha.1 ha.2 hb.1 hb.2
    rw [show valM a b = a.tmod b from by simp [valM, hk], hk] at h
    exact h
  · have h := mul_any b (a.tdiv b) w hb.1 hb.2 hQ.1 hQ.2
    rw [valS_in hT, okS_in hT] at h
    exact h
  · have h := add_any (b * a.tdiv b) (a.tmod b) w hT.1 hT.2 hR.1 hR.2
    rw [hs, valS_in ha, okS_in ha] at h
    exact h
  · generalize a.tmod b = R at *
    omega
  · generalize a.tmod b = R at *
    unfold inI at hb
    omega

set_option maxRecDepth 100000 in
set_option maxHeartbeats 1000000 in
theorem back_walk (a b : Int) (w : World) (ha1 : -9223372036854775808 ≤ a) (ha2 : a ≤ 9223372036854775807) (hb1 : -9223372036854775808 ≤ b) (hb2 : b ≤ 9223372036854775807) :
    Calls Try.prog 5 #[.int .i64 a, .int .i64 b] w fun e w' => e = .returned (.bool true) ∧ Grown w w' := by
  go_enter Try.func5, Try.ntmps5
  go_wp2_with fail
  refine (works_any _).mono ?_
  rintro e w1 ⟨rfl, hg⟩
  have HG := hidden hg
  clear hg
  go_wp2_with fail
  refine (add_any a b _ ha1 ha2 hb1 hb2).mono ?_
  rintro e w1 ⟨rfl, rfl⟩
  go_upto_if 27 with (fail)
  go_cut [5, 6, 7, 8] (fun s p d i wc => wc = w1)
  case first =>
    by_cases hi : inI (a + b)
    · rw [valS_in hi, okS_in hi]
      have hi1 := hi.1
      have hi2 := hi.2
      go_wp2_with fail
      refine (sub_back a b _ ⟨ha1, ha2⟩ ⟨hb1, hb2⟩ hi).mono ?_
      rintro e w1 ⟨rfl, rfl⟩
      go_wp2_with fail
      go_meet
      case rel => rfl
    · rw [valS_out hi, okS_out hi]
      go_wp2_with fail
      go_meet
      case rel => rfl
  case rest =>
    subst hcut
    go_wp2_with fail
    refine (mul_any a b _ ha1 ha2 hb1 hb2).mono ?_
    rintro e w1 ⟨rfl, rfl⟩
    go_upto_region 9 with (fail)
    go_cut [9, 10, 81] (fun m x c wc => c = .bool false ∧ wc = w1)
    case first =>
      by_cases hi : inI (a * b)
      · rw [valS_in hi, okS_in hi]
        by_cases h0 : a = 0
        · subst h0
          have hw : wrap64 (0 * b) = 0 * b := wrap64_inI hi
          rw [Int.zero_mul] at hw ⊢
          clear hi
          go_wp2_with fail
          go_meet
          case rel => exact ⟨rfl, rfl⟩
        · have hw : wrap64 (a * b) = a * b := wrap64_inI hi
          have e1 : (a != 0) = true := by simpa using h0
          have e2 : (wrap64 ((a * b).tdiv a) != b) = false := by
            rw [Int.mul_tdiv_cancel_left _ h0, wrap64_inI ⟨hb1, hb2⟩]; simp
          clear hi
          go_wp2_with fail
          all_goals first
            | (exfalso; omega)
            | (go_meet
               case rel => exact ⟨rfl, rfl⟩)
      · rw [valS_out hi, okS_out hi]
        clear hi
        go_wp2_with fail
        go_meet
        case rel => exact ⟨rfl, rfl⟩
    case rest =>
      obtain ⟨rfl, rfl⟩ := hcut
      go_wp2_with fail
      rcases hk : okD a b with _ | _
      · have hv : valD a b = 0 := by simp [valD, hk]
        have hm : valM a b = 0 := by simp [valM, hk]
        refine (div_any a b _ ha1 ha2 hb1 hb2).mono ?_
        rintro e w1 ⟨rfl, rfl⟩
        go_wp2_with fail
        refine (mod_any a b _ ha1 ha2 hb1 hb2).mono ?_
        rintro e w1 ⟨rfl, rfl⟩
        rcases okD_false hk with h | ⟨h, h'⟩
        · subst h
          go_wp2
          go_ret
          exact ⟨rfl, HG.out⟩
        · subst h; subst h'
          go_wp2
          go_ret
          exact ⟨rfl, HG.out⟩
      · obtain ⟨Q, R, T, hdiv, hmod, hmul, hadd, f1, f2⟩ := back_parts a b ⟨ha1, ha2⟩ ⟨hb1, hb2⟩ hk
        have HM := hidden hmod
        have HL := hidden hmul
        have HA := hidden hadd
        have F1 := hidden f1
        have F2 := hidden f2
        refine (hdiv _).mono ?_
        clear hdiv hmod hmul hadd f1 f2 hk
        rintro e w1 ⟨rfl, rfl⟩
        go_wp2_with fail
        refine (HM.out _).mono ?_
        rintro e w1 ⟨rfl, rfl⟩
        go_wp2_with fail
        refine (HL.out _).mono ?_
        rintro e w1 ⟨rfl, rfl⟩
        go_wp2_with fail
        refine (HA.out _).mono ?_
        rintro e w1 ⟨rfl, rfl⟩
        clear HM HL HA
        rcases F2.out with ⟨g1, g2, g3⟩ | ⟨g1, g2⟩ | ⟨g1, g2, g3, g4⟩
        · have G := HG
          clear F2 HG
          rcases F1.out with h1 | ⟨h1, h2⟩ | ⟨h1, h2⟩
          · subst h1
            clear F1
            go_wp2
            all_goals first
              | (exfalso; omega)
              | (go_ret; exact ⟨rfl, G.out⟩)
          · clear F1
            go_wp2
            all_goals first
              | (exfalso; omega)
              | (go_ret; exact ⟨rfl, G.out⟩)
          · clear F1
            go_wp2
            all_goals first
              | (exfalso; omega)
              | (go_ret; exact ⟨rfl, G.out⟩)
        · have G := HG
          clear F2 HG
          subst g1
          rcases F1.out with h1 | ⟨h1, h2⟩ | ⟨h1, h2⟩
          · subst h1
            clear F1
            go_wp2
            all_goals first
              | (exfalso; omega)
              | (go_ret; exact ⟨rfl, G.out⟩)
          · clear F1
            go_wp2
            all_goals first
              | (exfalso; omega)
              | (go_ret; exact ⟨rfl, G.out⟩)
          · clear F1
            go_wp2
            all_goals first
              | (exfalso; omega)
              | (go_ret; exact ⟨rfl, G.out⟩)
        · have G := HG
          have e1 : (b == -9223372036854775808) = false := by simpa using g2
          have g5 : -9223372036854775808 < b := by omega
          clear F2 HG g2
          rcases F1.out with h1 | ⟨h1, h2⟩ | ⟨h1, h2⟩
          · subst h1
            clear F1
            go_wp2
            all_goals first
              | (exfalso; omega)
              | (go_ret; exact ⟨rfl, G.out⟩)
          · clear F1
            go_wp2
            all_goals first
              | (exfalso; omega)
              | (go_ret; exact ⟨rfl, G.out⟩)
          · clear F1
            go_wp2
            all_goals first
              | (exfalso; omega)
              | (go_ret; exact ⟨rfl, G.out⟩)

set_option maxRecDepth 100000 in
theorem back_lifted (os : Os) (started : os.Started) (H : Type) (enc : TypeId × Value → H) :
    ReturnsInHanded {} Try.checked os 5 .any (Rows.arithBackSpec.pre6 enc Try.prog Try.f5 Rows.arithBackRow.domain false) (Rows.arithBackSpec.post enc Try.prog Try.f5 false true false false) := by
  refine returnsInHanded_of_change (C := Try.checked) back_own started (by kernel_rfl) Try.func5
    (ChangeSpec.witness6 (enc := enc) (C := Try.checked) false ⟨#[], #[.int .i64 0, .int .i64 0], []⟩ 8 (by kernel_rfl) (by kernel_rfl) (by kernel_rfl) (by kernel_rfl)) ?_
  intro W base args ds gs before hval0 hW hcnd _
  have hval : ∀ (j : Nat) t v, Try.f5.params[j]? = some t → args[j]? = some v → Value.okWide Try.prog W .any base t v := hval0
  have hW' := hW
  obtain ⟨p, q, hA0, hV, rfl, hfz, hnd⟩ := hW
  have hA : DataW.TrodAll enc Try.prog W 0 (fun _ => true) true Try.f5.params.toList args.toList ds p := hA0
  rw [Try.params5] at hA hval
  obtain ⟨v0, vs0, d0, ds0, p0, q0, hargs, rfl, rfl, h0, r0⟩ := trodAll_cons hA
  obtain ⟨v1, vs1, d1, ds1, p1, q1, rfl, rfl, rfl, h1, r1⟩ := trodAll_cons r0
  obtain ⟨rfl, rfl, rfl⟩ := trodAll_nil r1
  obtain rfl : args = #[v0, v1] := by cases args; simp_all
  obtain ⟨rfl, rfl⟩ := trodVars_none hV
  obtain ⟨a0, rfl, rfl, rfl, w0⟩ := open_int Try.underlying3 (hval 0 3 v0 rfl rfl) h0
  obtain ⟨a1, rfl, rfl, rfl, w1⟩ := open_int Try.underlying3 (hval 1 3 v1 rfl rfl) h1
  clear hA0 hval0
  simp only [List.append_nil] at hW'
  have b0 := bounds_i64 w0
  have b1 := bounds_i64 w1
  refine (back_walk a0 a1 W b0.1 b0.2 b1.1 b1.2).mono fun e W' ⟨he, hg⟩ => ?_
  subst he
  exact ⟨_, rfl, post_of_same (pa := []) (pv := []) hW' (fun _ _ _ => (trodAll_cons_mk (shut_bool Try.underlying4 _) trodAll_mk0)) (fun sp _ => (trodAll_cons_mk (shut_int Try.underlying3 w0) (trodAll_cons_mk (shut_int Try.underlying3 w1) trodAll_mk0))) (fun _ _ => rfl) rfl
    (hg.frame _) hg.2.1 (ok_one (by kernel_rfl) rfl (okWide_bool_mk Try.underlying4 _))⟩

/-- the statement -/
theorem back_holds : Rows.ArithBackSaid :=
  OpenClaim.holds_of_wide 5 Try.f5 rfl rfl rfl rfl rfl rfl rfl ⟨rfl, rfl, rfl, rfl, rfl⟩ rfl rfl rfl rfl rfl (by kernel_rfl) Try.func5 (by kernel_rfl)
    (of_decide_eq_true (by kernel_rfl)) (by unfold Func.isWrapper; first | (rw [if_pos (by decide +kernel)]; kernel_rfl) | (rw [if_neg (by decide +kernel)]; exact ⟨rfl, rfl⟩))
    (fun os started H enc _ => back_lifted os started H enc)
#print axioms back_holds
end Go.Proofs.Ytpcfhihmkddojaa
