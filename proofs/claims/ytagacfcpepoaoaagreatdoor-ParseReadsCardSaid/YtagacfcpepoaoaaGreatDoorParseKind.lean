/- The walks through the parser's statements, one by one. -/
import Derived.Test.YtagacfcpepoaoaaGreatDoorParseLeaf
import Derived.Test.YtagacfcpepoaoaaGreatDoorMKid
namespace Go.Proofs.YtagacfcpepoaoaaGreatDoor
open Go.RowKit
set_option linter.unusedVariables false

variable {B g P T N : Nat} {L : List Tk} {w0 w w' : World} {R0 R R' : Bx} {d : Nat} {o : Except Flt PS} {v : Value} {acc : List Int} {K n : Int} {S : ByteArray}
set_option maxRecDepth 100000 in
set_option maxHeartbeats 4000000 in
theorem kind_any (H : Any B g L w R d o) (hP : Par w g P T) :
    Calls Tryz.prog 72 #[.pointer (some ⟨P, 0, none⟩)] w fun en w' => en = .returned (.int .i64 (kdO o : Int)) ∧ Any B g L w' R d (kindO o) ∧ Fr g w w' R R := by
  have HR := hidden (Pre.start H hP)
  have hfd := field_at
  clear H hP
  go_enter Tryz.func72, Tryz.ntmps72
  go_wp2_with fail
  go_loopw [3] (fun t3 wr => ∃ i : Nat, 1 ≤ i ∧ i ≤ 4 ∧ t3 = .int .i64 (i : Int) ∧ Hid (Pre B g P T L w R d wr R o (.slice none 0 0) []) ∧ Hid (∀ s, o = .ok s → ∀ j, 1 ≤ j → j < i → s.is (kWord j) = false)) (fun t3 _ => 4 - (intOf t3).toNat)
  case atStart => exact ⟨1, by omega, by omega, rfl, HR, fun s hs j h1 h2 => by omega⟩
  case round =>
    obtain ⟨i, h1, h4, rfl, HX, HN⟩ := hrel
    clear HR
    by_cases hi : i < 4
    · have hp := HX.out.par.c0
      obtain ⟨kt, kf, hk⟩ := HX.out.par.kw
      have k1 : wr.cell? ⟨1, 1, none⟩ = some (.string ⟨#[105, 110, 116]⟩) := by simp [World.cell?, hk, kindCells]
      have k2 : wr.cell? ⟨1, 2, none⟩ = some (.string ⟨#[98, 111, 111, 108]⟩) := by simp [World.cell?, hk, kindCells]
      have k3 : wr.cell? ⟨1, 3, none⟩ = some (.string ⟨#[97, 114, 114]⟩) := by simp [World.cell?, hk, kindCells]
      clear hk
      have HD := hidden (HX.out.below (below_drew wr))
      have h3 : i = 1 ∨ i = 2 ∨ i = 3 := by omega
      rcases h3 with rfl | rfl | rfl
      · go_wp2_with fail
        go_still_tail 7, (by kernel_rfl)
        change wpList _ _ _ _ _ wr.drew
        go_wp2_with fail
        refine (any_skip (kWord 1) HD.out.any).mono ?_
        rintro en w2 ⟨c, o', rfl, ha, hf, hc⟩
        rcases hc with ⟨rfl, s, hs, hb, ho⟩ | ⟨rfl, ho, hb⟩
        · have HY := hidden (HD.out.step ha hf rfl)
          have HK : Hid (kindAt s.tok = 1) := kd_of (by decide) (by decide) hb
          have HO := hidden ho
          have HS := hidden hs
          clear ha hf hb ho hs
          go_wp2_with fail
          go_ret
          have hk := HK.out
          have hs := HS.out
          subst hs
          refine ⟨by show _ = Ending.returned (.int .i64 ((kindAt s.tok : Nat) : Int)); rw [hk]; rfl, ?_, HY.out.fr⟩
          rw [kindO_yes (by omega), ← HO.out]
          exact HY.out.any
        · have HY := hidden (HD.out.step ha hf rfl)
          rw [ho] at HY
          have HB := hidden hb
          clear ha hf hb ho
          go_wp2_with fail
          go_roundw
          case rel => exact ⟨1 + 1, by decide, by decide, by go_num, HY, fun s hs => upto_next (X := fun j => s.is (kWord j)) (HN.out s hs) (HB.out s hs)⟩
          case measure => simp [intOf]
      · go_wp2_with fail
        go_still_tail 7, (by kernel_rfl)
        change wpList _ _ _ _ _ wr.drew
        go_wp2_with fail
        refine (any_skip (kWord 2) HD.out.any).mono ?_
        rintro en w2 ⟨c, o', rfl, ha, hf, hc⟩
        rcases hc with ⟨rfl, s, hs, hb, ho⟩ | ⟨rfl, ho, hb⟩
        · have HY := hidden (HD.out.step ha hf rfl)
          have HK : Hid (kindAt s.tok = 2) := kd_of (by decide) (by decide) hb
          have HO := hidden ho
          have HS := hidden hs
          clear ha hf hb ho hs
          go_wp2_with fail
          go_ret
          have hk := HK.out
          have hs := HS.out
          subst hs
          refine ⟨by show _ = Ending.returned (.int .i64 ((kindAt s.tok : Nat) : Int)); rw [hk]; rfl, ?_, HY.out.fr⟩
          rw [kindO_yes (by omega), ← HO.out]
          exact HY.out.any
        · have HY := hidden (HD.out.step ha hf rfl)
          rw [ho] at HY
          have HB := hidden hb
          clear ha hf hb ho
          go_wp2_with fail
          go_roundw
          case rel => exact ⟨2 + 1, by decide, by decide, by go_num, HY, fun s hs => upto_next (X := fun j => s.is (kWord j)) (HN.out s hs) (HB.out s hs)⟩
          case measure => simp [intOf]
      · go_wp2_with fail
        go_still_tail 7, (by kernel_rfl)
        change wpList _ _ _ _ _ wr.drew
        go_wp2_with fail
        refine (any_skip (kWord 3) HD.out.any).mono ?_
        rintro en w2 ⟨c, o', rfl, ha, hf, hc⟩
        rcases hc with ⟨rfl, s, hs, hb, ho⟩ | ⟨rfl, ho, hb⟩
        · have HY := hidden (HD.out.step ha hf rfl)
          have HK : Hid (kindAt s.tok = 3) := kd_of (by decide) (by decide) hb
          have HO := hidden ho
          have HS := hidden hs
          clear ha hf hb ho hs
          go_wp2_with fail
          go_ret
          have hk := HK.out
          have hs := HS.out
          subst hs
          refine ⟨by show _ = Ending.returned (.int .i64 ((kindAt s.tok : Nat) : Int)); rw [hk]; rfl, ?_, HY.out.fr⟩
          rw [kindO_yes (by omega), ← HO.out]
          exact HY.out.any
        · have HY := hidden (HD.out.step ha hf rfl)
          rw [ho] at HY
          have HB := hidden hb
          clear ha hf hb ho
          go_wp2_with fail
          go_roundw
          case rel => exact ⟨3 + 1, by decide, by decide, by go_num, HY, fun s hs => upto_next (X := fun j => s.is (kWord j)) (HN.out s hs) (HB.out s hs)⟩
          case measure => simp [intOf]
    · have hi4 : i = 4 := by omega
      subst hi4
      have hp := HX.out.par.c0
      have HD := hidden (HX.out.below (below_drew wr))
      have hp2 := HD.out.par.c0
      have HZ : Hid (kdO o = 0 ∧ kindO o = failO 8 (match o with | .ok s => s.tok.place | .error f => 0) o) := by
        cases o with
        | error f => exact ⟨rfl, rfl⟩
        | ok s => have := kd_none (HN.out s rfl); exact ⟨this, kindO_no this⟩
      go_wp2_with fail
      go_region_with (first
        | (go_at_call 42; refine (any_token HD.out.any).mono ?_; rintro en w2 ⟨tk, tn, ta, tx, rfl, hta, hb⟩; have HTA := hidden hta; have HY := hidden (HD.out.below hb); have hp3 := HY.out.par.c0; clear hb hta)
        | (go_at_call 41; refine (any_fail 8 ta (by decide) HY.out.any).mono ?_; rintro en w3 ⟨⟨v, rfl⟩, ha, hf⟩; have HF := hidden (HY.out.step ha hf rfl); clear ha hf))
      all_goals
        go_wp2_with fail
        go_ret
        refine ⟨by rw [HZ.out.1]; rfl, ?_, HF.out.fr⟩
        rw [HZ.out.2]
        have := HF.out.any
        cases o with
        | error f => exact this
        | ok s => have h2 := (HTA.out s rfl).2; subst h2; exact this
end Go.Proofs.YtagacfcpepoaoaaGreatDoor
