/- The walk through a block. -/
import Derived.Test.YtagacfcpepoaoaaGreatDoorParseSt
import Derived.Test.YtagacfcpepoaoaaGreatDoorMKid
import Derived.WalkMore
namespace Go.Proofs.YtagacfcpepoaoaaGreatDoor
open Go.RowKit
set_option linter.unusedVariables false

variable {B g P T N : Nat} {L : List Tk} {w0 w w' : World} {R0 R R' : Bx} {d : Nat} {o : Except Flt PS} {v : Value} {acc : List Int} {K n : Int} {S : ByteArray}
theorem Ev.const_eq {x u : Out} (h : Ev (fun _ => some x) u) : u = x := by
  obtain ⟨n, hn⟩ := h
  exact (Option.some.inj (hn n (Nat.le_refl _))).symm
theorem Lim.need_less {b : List UInt8} {n m : Nat} (h : Lim o n m) : Lim (needO b o) (n - 1) (m - 1) := by
  cases o with
  | error f => exact Lim.err
  | ok s =>
    cases hb : s.is b with
    | true => rw [needO_yes hb]; exact h.next_le hb
    | false => rw [needO_no hb]; exact Lim.err
theorem Lim.open_ {d a n m : Nat} (h : Lim o n m) : Lim (openO d a o) n m := by
  cases o with
  | error f => exact Lim.err
  | ok s =>
    by_cases hd : 200 ≤ d
    · rw [openO_no hd]; exact Lim.err
    · rw [openO_yes hd]; exact h
/-- a block's statements, on the way -/
structure BlkSt (B g P T : Nat) (L : List Tk) (M : Nat) (w0 : World) (R0 : Bx) (d : Nat) (o : Except Flt PS) (N ta : Nat) (wr : World) (R1 : Bx) (o1 : Except Flt PS) (v1 : Value) (acc : List Int) : Prop where
  run : Run B g P T L w0 R0 (d + 1) wr R1 o1 N 23 v1 acc 0 ⟨#[]⟩ (ta : Int)
  lim : Lim o1 (L.length - 1) (M - 1)
  few : acc.length ≤ 100000
  many : ∀ s, o1 = .ok s → acc.length + s.r.length ≤ L.length ∧ d < 200
  cont : ∀ u, Does o1 (fun s n => prd n (.stmts acc ta) (d + 1) s) u → Does o (fun s n => prd n .block d s) u
theorem Does.stmts_end {s : PS} {acc : List Int} {ta d : Nat} {u : Out} (hb : s.is rc = true) (h : Does (.ok s.next) (fun s _ => some (lay (En 23 acc 0 ⟨#[]⟩ (ta : Int)) s)) u) : Does (.ok s) (fun s n => prd n (.stmts acc ta) d s) u := by
  rw [Ev.const_eq h]
  exact (PReads.stmts_end hb).ev
theorem Does.stmts_err {acc : List Int} {ta d : Nat} {f : Flt} (hb : ∀ s, o = .ok s → s.is rc = false) (h : Does o (fun s n => prd n .stmt d s) (.error f)) : Does o (fun s n => prd n (.stmts acc ta) d s) (.error f) := by
  cases o with
  | error f' => exact h
  | ok s => exact (PReads.stmts_err (hb s rfl) h.to_preads).ev
theorem Does.stmts_next {acc : List Int} {ta d : Nat} {l : List Int} {s1 : PS} {u : Out} (hb : ∀ s, o = .ok s → s.is rc = false) (h : Does o (fun s n => prd n .stmt d s) (.ok (l, s1))) (hl : l = [hd1 l]) (r : Does (.ok s1) (fun s n => prd n (.stmts (acc ++ [hd1 l]) ta) d s) u) : Does o (fun s n => prd n (.stmts acc ta) d s) u := by
  cases o with
  | error f' => exact absurd h (by intro h; cases h)
  | ok s => rw [hl] at h; exact (PReads.stmts_next (hb s rfl) h.to_preads r.to_preads).ev
/-- how a block begins -/
theorem Does.block_start {d ta : Nat} (ht : ∀ s, o = .ok s → ta = s.tok.place) {u : Out} (h : Does (openO d ta (needO lc o)) (fun s n => prd n (.stmts [] ta) (d + 1) s) u) : Does o (fun s n => prd n .block d s) u := by
  cases o with
  | error f => exact h
  | ok s =>
    have ht := ht s rfl
    subst ht
    refine (PReads.block ?_).ev
    refine Does.need (o := .ok s) (b := lc) (G := fun s1 n => if 200 ≤ d then some (.error (4, s.tok.place)) else prd n (.stmts [] s.tok.place) (d + 1) s1) ?_
    cases hn : needO lc (.ok s) with
    | error f => rw [hn] at h; exact h
    | ok s1 =>
      rw [hn] at h
      by_cases hd : 200 ≤ d
      · rw [openO_no hd] at h; rw [show u = _ from h]; exact Ev.ite_pos hd Ev.const
      · rw [openO_yes hd] at h; exact Ev.ite_neg hd h
theorem is_pos {s : PS} (H : Any B g L w R d o) (hs : o = .ok s) : 1 ≤ s.r.length := by
  subst hs
  exact Good.some H
theorem stmt_one {l : List Int} {s1 : PS} (h : Does o (fun s n => prd n .stmt d s) (.ok (l, s1))) : l = [hd1 l] := by
  cases o with
  | error f => cases h
  | ok s => obtain ⟨n, hn⟩ := h; exact stmt_single (hn n (Nat.le_refl _)) l s1 rfl
set_option maxRecDepth 100000 in
set_option maxHeartbeats 20000000 in
theorem block_of {M : Nat} (hS : CStmt B g P T L (M - 1)) (H : Any B g L w R d o) (hP : Par w g P T) (hd : d ≤ 200) (hl : Lim o L.length M) :
    Calls Tryz.prog 66 #[.pointer (some ⟨P, 0, none⟩)] w fun en w' => ∃ u R', Does o (fun s n => prd n .block d s) u ∧ Came B g L w R d u en w' R' := by
  have HR := hidden (Pre.start H hP)
  obtain ⟨w0, hw0⟩ : ∃ w0, w0 = w := ⟨_, rfl⟩
  obtain ⟨R0, hR0⟩ : ∃ R0, R0 = R := ⟨_, rfl⟩
  have HW0 := hidden hw0
  have HR0 := hidden hR0
  have HST := hidden hS
  have HD2 := hidden hd
  have HL := hidden hl
  have HMANY := hidden H.many
  have hfd := field_at
  have hp := HR.out.par.c0
  clear H hP hd hl hS
  go_enter Tryz.func66, Tryz.ntmps66
  rw [veil 2]
  go_wp2_with fail
  refine wp_scope_straight ?_
  go_wp2_with fail
  refine (any_token HR.out.any).mono ?_
  rintro en w1 ⟨tk, tn, ta, tx, rfl, hta, hb⟩
  replace HR := hidden (HR.out.below hb)
  have HTA : Hid (∀ s, o = .ok s → ta = s.tok.place) := fun s hs => (hta s hs).2
  clear hb hta hp
  obtain ⟨W, hW⟩ : ∃ W, W = w1.alloc (.cells #[.int .i64 23, .slice none 0 0, .int .i64 0, .string ⟨#[]⟩, .int .i64 (ta : Int)] 59) := ⟨_, rfl⟩
  obtain ⟨N, hN⟩ : ∃ N, N = w1.heap.size := ⟨_, rfl⟩
  have HQ : Hid (Run B g P T L w0 R0 d W R o N 23 (.slice none 0 0) [] 0 ⟨#[]⟩ (ta : Int)) := by rw [hW, hN, hw0, hR0]; exact HR.out.node 23 0 ⟨#[]⟩ ta
  clear hw0 hR0 HR
  go_wp2_with fail
  rw [← hW, ← hN]
  clear hW hN
  have hp := HQ.out.par.c0
  refine wp_veil ?_
  go_wp2_with fail
  refine (any_want lc HQ.out.any).mono ?_
  rintro en w2 ⟨⟨x, rfl⟩, ha, hf⟩
  replace HQ := hidden (HQ.out.step ha hf rfl)
  clear ha hf hp
  have hp := HQ.out.par.c0
  have b4 := HQ.out.n4
  go_wp2_with fail
  go_still_tail 6, (by kernel_rfl)
  change wpList _ _ _ _ _ w2.drew
  replace HQ := hidden (HQ.out.below (below_drew w2))
  clear hp b4
  go_wp2_with fail
  refine (any_open ta HQ.out.any (by have := HD2.out; omega)).mono ?_
  rintro en w3 ⟨⟨x3, rfl⟩, ha, hf⟩
  replace HQ := hidden (HQ.out.step ha hf rfl)
  clear ha hf
  have HB0 : Hid (BlkSt B g P T L M w0 R0 d o N ta w3 R (openO d ta (needO lc o)) (.slice none 0 0) []) := by
    refine ⟨HQ.out, Lim.open_ (Lim.need_less HL.out), by simp, fun s hs => ?_, fun u h => Does.block_start HTA.out h⟩
    have h1 := (Lim.open_ (d := d) (a := ta) (Lim.need_le (b := lc) HL.out)) s hs
    refine ⟨by simp; omega, ?_⟩
    rcases Nat.lt_or_ge d 200 with h2 | h2
    · exact h2
    · cases hn : needO lc o with
      | error f => rw [hn] at hs; cases hs
      | ok s1 => rw [hn, openO_no h2] at hs; cases hs
  clear HQ
  go_wp2_with fail
  go_step3
  go_wp2_with fail
  go_loopw [4] (fun t4 wr => ∃ (o1 : Except Flt PS) (R1 : Bx) (v1 : Value) (acc : List Int), Hid (BlkSt B g P T L M w0 R0 d o N ta wr R1 o1 v1 acc)) (fun _ wr => lam g L.length wr)
  case atStart => exact ⟨_, R, _, [], HB0⟩
  case round =>
    obtain ⟨o1, R1, v1, acc, HX⟩ := hrel
    clear HB0
    have hp := HX.out.run.par.c0
    go_wp2_with fail
    refine (any_skip rc HX.out.run.any).mono ?_
    rintro en w3 ⟨c, o', rfl, ha, hf, hc⟩
    have HV := hidden (HX.out.run.step ha hf rfl)
    have HFEW := hidden HX.out.few
    clear ha hf hp
    rcases hc with ⟨rfl, s, hs, hb, ho⟩ | ⟨rfl, ho, hb⟩
    · rw [ho] at HV
      have HS := hidden hs
      have HB := hidden hb
      clear ho hs hb
      have HLP : Hid (Lim (.ok s.next) L.length L.length) := by have h1 := HX.out.lim; rw [HS.out] at h1; exact (h1.next_le HB.out).self.mono (by omega) (by omega)
      have hp := HV.out.par.c0
      go_wp2_with fail
      refine (any_close HV.out.any (by have := HD2.out; omega)).mono ?_
      rintro en w4 ⟨⟨x, rfl⟩, ha, hf⟩
      replace HV := hidden (HV.out.step ha hf rfl)
      clear ha hf hp
      have hp := HV.out.par.c0
      have b0 := HV.out.n0
      have b1 := HV.out.n1
      have b2 := HV.out.n2
      have b3 := HV.out.n3
      have b4 := HV.out.n4
      go_wp2_with fail
      go_still_tail 5, (by kernel_rfl)
      change wpList _ _ _ _ _ w4.drew
      have HZ := hidden (HV.out.below (below_drew w4))
      go_wp2_with fail
      refine (any_put _ _ _ _ _ _ HZ.out.any HZ.out.now HLP.out HFEW.out).mono ?_
      rintro en wz ⟨uz, Rz, hdo, hc, hli⟩
      obtain rfl := hc.en
      have HCz := hidden (HZ.out.came hc)
      have HDz := hidden hdo
      clear hdo hc hli
      go_wp2_with fail
      rw [Exit.noGoto_ret]
      go_ret
      have hw0 := HW0.out
      have hR0 := HR0.out
      subst hw0 hR0
      have hs := HS.out
      subst hs
      exact ⟨uz, _, HX.out.cont uz (Does.stmts_end HB.out HDz.out), HCz.out⟩
    · rw [ho] at HV
      have HB := hidden hb
      clear ho hb
      go_wp2_with fail
      refine (HST.out _ _ _ _ HV.out.any HV.out.par (fun s hs => by have := (HX.out.many s hs).2; omega) (HX.out.lim.mono (by omega) (Nat.le_refl _))).mono ?_
      rintro en w5 ⟨u, R5, hdo, hc, hli⟩
      obtain rfl := hc.en
      replace HV := hidden (HV.out.step hc.any hc.fr hc.z)
      have HDO := hidden hdo
      have HLI := hidden hli
      obtain ⟨k, hk⟩ : ∃ k, k = kidO u := ⟨_, rfl⟩
      rw [← hk]
      have HK := hidden hk
      clear hdo hc hli hk
      by_cases hk1 : k = -1
      · have hkb : (k == -1) = true := by simp [hk1]
        obtain ⟨f1, hf1⟩ : ∃ f1, u = .error f1 := by
          match u, HDO, HK with
          | .error f1, _, _ => exact ⟨f1, rfl⟩
          | .ok (l, s1), HDO, HK =>
            have h1 := HDO.out.kid_ok l s1 rfl
            have h2 : k = hd1 l := HK.out
            omega
        subst hf1
        clear hk1
        have hp := HV.out.par.c0
        go_wp2_with fail
        refine (any_close HV.out.any (by have := HD2.out; omega)).mono ?_
        rintro en w4 ⟨⟨x, rfl⟩, ha, hf⟩
        replace HV := hidden (HV.out.step ha hf rfl)
        clear ha hf hp
        have hp := HV.out.par.c0
        have b0 := HV.out.n0
        have b1 := HV.out.n1
        have b2 := HV.out.n2
        have b3 := HV.out.n3
        have b4 := HV.out.n4
        go_wp2_with fail
        go_still_tail 5, (by kernel_rfl)
        change wpList _ _ _ _ _ w4.drew
        have HZ := hidden (HV.out.below (below_drew w4))
        go_wp2_with fail
        refine (any_put _ _ _ _ _ _ HZ.out.any HZ.out.now Lim.err HFEW.out).mono ?_
        rintro en wz ⟨uz, Rz, hdo, hc, hli⟩
        obtain rfl := hc.en
        have HCz := hidden (HZ.out.came hc)
        have HDz := hidden hdo
        clear hdo hc hli
        go_wp2_with fail
        rw [Exit.noGoto_ret]
        go_ret
        have hw0 := HW0.out
        have hR0 := HR0.out
        subst hw0 hR0
        have hu : uz = .error f1 := HDz.out
        rw [hu] at HCz ⊢
        exact ⟨.error f1, _, HX.out.cont _ (Does.stmts_err HB.out HDO.out), HCz.out⟩
      · have hkb : (k == -1) = false := by simp [hk1]
        obtain ⟨l, s1, hu⟩ : ∃ l s1, u = .ok (l, s1) := by
          match u, HDO, HK with
          | .error f1, _, HK => exact absurd HK.out hk1
          | .ok (l, s1), HDO, HK => exact ⟨l, s1, rfl⟩
        subst hu
        obtain ⟨s, hs⟩ : ∃ s, o1 = .ok s := by
          cases o1 with
          | error f => exact absurd HDO.out (by intro h; cases h)
          | ok s => exact ⟨s, rfl⟩
        have HS := hidden hs
        clear hs
        have b1 := HV.out.n1
        have HRS := hidden (is_pos (H := HX.out.run.any) HS.out)
        have hal : acc.length ≤ 99999 := by have h1 := HX.out.many s HS.out; have h2 := HRS.out; have h3 := HMANY.out; omega
        have HAL := hidden hal
        clear hal hk1
        go_wp2_with (at_builtin; refine wpList_kid rfl (.tmp 34) (.tmp 36) rfl w0.heap.size w5 v1 acc k rfl rfl HV.out.now HV.out.fr.size (by have := HAL.out; omega) ?_; intro v3 w6 h3 hg3 hw3; obtain ⟨va, vc, hv3⟩ := own_shape5 h3; obtain ⟨R3, hr3, hc3, hf3⟩ := HV.out.push h3 hg3 hw3; have HR3 := hidden hr3; clear hr3 h3 hg3 hw3; rw [List.length_append, List.length_singleton] at hv3; subst hv3)
        have HNX : Hid (BlkSt B g P T L M w0 R0 d o N ta (w6.setCell ⟨N, 1, none⟩ (.slice va (acc.length + 1) vc)) R3 (.ok s1) (.slice va (acc.length + 1) vc) (acc ++ [k])) := by
          have hlt := HLI.out (L.length - 1) (s.r.length - 1) (by intro s' e; rw [HS.out] at e; injection e with e; subst e; have h1 := (HX.out.lim s HS.out).1; have h2 := HRS.out; exact ⟨by omega, by omega⟩) s1 rfl
          have hlm := HX.out.many s HS.out
          have hp1 := HRS.out
          have hlx := HLI.out (L.length - 2) (M - 2) (by intro s' e; rw [HS.out] at e; injection e with e; subst e; have h1 := HX.out.lim s HS.out; exact ⟨by omega, by omega⟩) 
          refine ⟨HR3.out, fun s' e => ?_, by rw [List.length_append, List.length_singleton]; have := HAL.out; omega, fun s' e => ?_, fun u h => ?_⟩
          · injection e with e
            subst e
            have h1 := hlx s1 rfl
            have h2 := HX.out.lim s HS.out
            exact ⟨by omega, by omega⟩
          · injection e with e
            subst e
            rw [List.length_append, List.length_singleton]
            exact ⟨by omega, hlm.2⟩
          · exact HX.out.cont u (Does.stmts_next HB.out HDO.out (stmt_one HDO.out) (by rw [HK.out] at h; exact h))
        have HMS : Hid (lam g L.length (w6.setCell ⟨N, 1, none⟩ (.slice va (acc.length + 1) vc)) < lam g L.length wr) := by
          have h1 : Good B g L _ R3 (d + 1) s1 := HR3.out.any
          have h2 := HX.out.run.any
          rw [HS.out] at h2
          have h2 : Good B g L wr R1 (d + 1) s := h2
          have hlt := HLI.out (L.length - 1) (s.r.length - 1) (by intro s' e; rw [HS.out] at e; injection e with e; subst e; have h1 := (HX.out.lim s HS.out).1; have h2 := HRS.out; exact ⟨by omega, by omega⟩) s1 rfl
          have hp1 := HRS.out
          show lam _ _ _ < lam _ _ _
          rw [h1.lam, h2.lam]
          omega
        go_wp2_with fail
        go_roundw
        case rel => exact ⟨_, R3, _, _, HNX⟩
        case measure => exact HMS.out
theorem all_stmts (B g P T : Nat) (L : List Tk) : ∀ M, (∀ m, m ≤ M → CStmt B g P T L m ∧ CBlock B g P T L m)
  | 0 => by
    have h1 : CStmt B g P T L 0 := fun w R d o H hP hd hl => stmt_of (fun m hm => absurd hm (by omega)) H hP hd hl
    intro m hm
    obtain rfl : m = 0 := by omega
    exact ⟨h1, fun w R d o H hP hd hl => block_of h1 H hP hd hl⟩
  | M + 1 => by
    have ih := all_stmts B g P T L M
    intro m hm
    rcases Nat.lt_or_ge m (M + 1) with h | h
    · exact ih m (by omega)
    · obtain rfl : m = M + 1 := by omega
      exact ⟨fun w R d o H hP hd hl => stmt_of (fun k hk => (ih k (by omega)).2) H hP hd hl, fun w R d o H hP hd hl => block_of (ih M (Nat.le_refl _)).1 H hP hd hl⟩
theorem block_any (H : Any B g L w R d o) (hP : Par w g P T) (hd : d ≤ 200) (hl : Lim o L.length L.length) :
    Calls Tryz.prog 66 #[.pointer (some ⟨P, 0, none⟩)] w fun en w' => ∃ u R', Does o (fun s n => prd n .block d s) u ∧ Came B g L w R d u en w' R' ∧ ∀ n m, Lim o n m → Lim (toO u) n m := CBlock.use (all_stmts B g P T L L.length L.length (Nat.le_refl _)).2 H hP hd hl
end Go.Proofs.YtagacfcpepoaoaaGreatDoor
