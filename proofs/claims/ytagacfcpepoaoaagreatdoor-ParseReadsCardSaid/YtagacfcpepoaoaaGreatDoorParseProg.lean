/- The walk through a program. -/
import Derived.Test.YtagacfcpepoaoaaGreatDoorParseFun
import Derived.Deep.RegionWith
namespace Go.Proofs.YtagacfcpepoaoaaGreatDoor
open Go.RowKit
set_option linter.unusedVariables false

variable {B g P T N : Nat} {L : List Tk} {w0 w w' : World} {R0 R R' : Bx} {d : Nat} {o : Except Flt PS} {v : Value} {acc : List Int} {K n : Int} {S : ByteArray}
theorem one_kind {f : Nat → PS → Option Out} {s : PS} {v : Out} (h : needKind s f = some v) (g : ∀ k s1, f k s1 = some v → OneOk v) : OneOk v := by
  unfold needKind at h
  split at h
  · injection h with h; subst h; exact one_err
  · exact g _ _ h
theorem func_one {s : PS} {v : Out} (h : PReads .func d s v) : OneOk v := by
  obtain ⟨n, h⟩ := h
  cases n with
  | zero => cases h
  | succ n =>
    rw [prd] at h
    exact one_name h fun _ _ _ h => one_need h fun _ h => one_go h fun _ _ h => one_kind h fun _ _ h => one_go h fun _ _ h => one_lay h
/-- of a function's fn and what follows -/
theorem fun_reads {s : PS} {u : Out} (hb : s.is wFn = true) (h : Does (.ok s) (FFun d) u) : PReads .func d s.next u := by
  obtain ⟨n, hn⟩ := h
  exact ⟨n, (if_pos hb).symm.trans (hn n (Nat.le_refl _))⟩
theorem prog_step {s : PS} {acc : List Int} {u v : Out} (hb : s.is wFn = true) (ha : acc.length < 200) (h : Does (.ok s) (FFun d) u) (r : Does (toO u) (fun s n => prd n (.prog (acc ++ [kidO u])) d s) v) : Does (.ok s) (fun s n => prd n (.prog acc) d s) v := by
  have h1 := fun_reads hb h
  match u, h1, r with
  | .error f, h1, r => rw [show v = _ from r]; exact (PReads.prog_err hb ha h1).ev
  | .ok (l, s1), h1, r =>
    have h2 := func_one h1 l s1 rfl
    rw [h2] at h1
    exact (PReads.prog_next hb ha h1 r.to_preads).ev
/-- the functions so far -/
structure PrgSt (B g P T : Nat) (L : List Tk) (w0 : World) (R0 : Bx) (d : Nat) (o : Except Flt PS) (N : Nat) (wr : World) (R1 : Bx) (o1 : Except Flt PS) (v1 : Value) (acc : List Int) : Prop where
  run : Run B g P T L w0 R0 d wr R1 o1 N 26 v1 acc 0 ⟨#[]⟩ ((0 : Nat) : Int)
  lim : Lim o1 L.length L.length
  few : acc.length ≤ 201
  many : ∀ s, o1 = .ok s → acc.length ≤ 200
  cont : ∀ u, Does o1 (fun s n => prd n (.prog acc) d s) u → Does o (fun s n => prd n (.prog []) d s) u
theorem fail_lim {x a n m : Nat} : Lim (failO x a o) n m := by
  cases o with
  | ok s => exact Lim.err
  | error f => exact Lim.err
theorem prog_last {acc : List Int} {u : Out} (hk : ∀ s, o = .ok s → s.tok.kind = 0) (h : Does o (fun s _ => some (lay (En 26 acc 0 ⟨#[]⟩ ((0 : Nat) : Int)) s)) u) : Does o (fun s n => prd n (.prog acc) d s) u := by
  cases o with
  | error f => exact h
  | ok s => rw [Ev.const_eq h]; exact (PReads.prog_end (hk s rfl)).ev
theorem prog_other {acc : List Int} {u : Out} {tk ta : Nat} (ht : ∀ s, o = .ok s → tk = s.tok.kind ∧ ta = s.tok.place) (hk : tk ≠ 0) (hb : ∀ s, o = .ok s → s.is wFn = false) (h : Does (failO 8 ta o) (fun s _ => some (lay (En 26 acc 0 ⟨#[]⟩ ((0 : Nat) : Int)) s)) u) : Does o (fun s n => prd n (.prog acc) d s) u := by
  cases o with
  | error f => exact h
  | ok s =>
    obtain ⟨h1, h2⟩ := ht s rfl
    subst h1 h2
    rw [show u = _ from h]
    exact (PReads.prog_no hk (hb s rfl)).ev
set_option maxRecDepth 100000 in
set_option maxHeartbeats 20000000 in
theorem program_any (H : Any B g L w R d o) (hP : Par w g P T) (hd : d ≤ 200) (hl : Lim o L.length L.length) :
    Calls Tryz.prog 12 #[.pointer (some ⟨P, 0, none⟩)] w fun en w' => ∃ u R', (∃ x, en = .returned x) ∧ Does o (fun s n => prd n (.prog []) d s) u ∧ Fr g w w' R R' ∧ Any B g L w' R' d (toO u) := by
  obtain ⟨w0, hw0⟩ : ∃ w0, w0 = w := ⟨_, rfl⟩
  obtain ⟨R0, hR0⟩ : ∃ R0, R0 = R := ⟨_, rfl⟩
  have HR : Hid (Pre B g P T L w0 R0 d w R o (.slice none 0 0) []) := by rw [hw0, hR0]; exact Pre.start H hP
  have HW0 := hidden hw0
  have HR0 := hidden hR0
  have HL := hidden hl
  have HDD := hidden hd
  have hp := HR.out.par.c0
  clear H hP hl hd hw0 hR0
  obtain ⟨W, hW⟩ : ∃ W, W = w.alloc (.cells #[.int .i64 26, .slice none 0 0, .int .i64 0, .string ⟨#[]⟩, .int .i64 0] 59) := ⟨_, rfl⟩
  obtain ⟨N, hN⟩ : ∃ N, N = w.heap.size := ⟨_, rfl⟩
  have HQ : Hid (Run B g P T L w0 R0 d W R o N 26 (.slice none 0 0) [] 0 ⟨#[]⟩ ((0 : Nat) : Int)) := by rw [hW, hN]; exact HR.out.node 26 0 ⟨#[]⟩ 0
  clear hp
  go_enter Tryz.func12, Tryz.ntmps12
  go_wp2_with fail
  rw [← hW, ← hN]
  clear hW hN
  go_loopw [] (fun wr => ∃ (o1 : Except Flt PS) (R1 : Bx) (v1 : Value) (acc : List Int), Hid (PrgSt B g P T L w0 R0 d o N wr R1 o1 v1 acc)) (fun wr => lam g L.length wr)
  case atStart => exact ⟨o, R, _, [], ⟨HQ.out, HL.out, by simp, fun s hs => by simp, fun u h => h⟩⟩
  case round =>
    obtain ⟨o1, R1, v1, acc, HX⟩ := hrel
    clear HQ HR
    have hp := HX.out.run.par.c0
    go_wp2_with fail
    refine (any_is wFn HX.out.run.any).mono ?_
    rintro en w1 ⟨c, rfl, hb, hc⟩
    have HV := hidden (HX.out.run.below hb)
    have HBW := hidden hb
    clear hb hp
    rcases hc with ⟨rfl, s, hs, hb⟩ | ⟨rfl, hb⟩
    · have HB := hidden hb
      have HS := hidden hs
      clear hb hs
      obtain ⟨la, lc, hv⟩ := own_shape5 HV.out.now
      obtain ⟨A, hA⟩ : ∃ A, A = acc.length := ⟨_, rfl⟩
      rw [← hA] at hv
      subst hv
      have HA := hidden hA
      have hA2 := HX.out.many s HS.out
      rw [← hA] at hA2
      have HA2 := hidden hA2
      clear hA
      have HRS : Hid (1 ≤ s.r.length) := is_pos HX.out.run.any HS.out
      have HLW : Hid (lam g L.length wr = s.r.length) := by
        have h2 := HX.out.run.any
        rw [HS.out] at h2
        exact Good.lam h2
      have b1 := HV.out.n1
      by_cases h2 : A = 200
      · have h2i : ((A : Int) == 200) = true := by simp; omega
        have HA8 : Hid (acc.length = 200) := by show _ = _; rw [← HA.out]; exact h2
        clear h2 hA2
        have hfd := field_at
        have HD := hidden (HV.out.below (below_drew w1))
        have hp2 := HD.out.par.c0
        have hp := HV.out.par.c0
        go_wp2_with fail
        go_cut [] (fun wx => ∃ ta : Nat, ta = s.tok.place ∧ Hid (Run B g P T L w0 R0 d wx R1 (failO 3 ta o1) N 26 (.slice la A lc) acc 0 ⟨#[]⟩ ((0 : Nat) : Int)))
        case first =>
          go_region_with (first
            | (go_at_call 42; refine (any_token HD.out.any).mono ?_; rintro en w2 ⟨tk, tn, ta, tx, rfl, hta, hb⟩; have HTA := hidden hta; have HY := hidden (HD.out.below hb); have hp3 := HY.out.par.c0; clear hb hta)
            | (go_at_call 41; refine (any_fail 3 ta (by decide) HY.out.any).mono ?_; rintro en w3 ⟨⟨v, rfl⟩, ha, hf⟩; have HF := hidden (HY.out.step ha hf rfl); clear ha hf))
          all_goals
            go_wp2_with fail
            go_meet
            exact ⟨ta, (HTA.out s HS.out).2, HF⟩
        case rest =>
          obtain ⟨ta, hta, HF⟩ := hcut
          have HTP := hidden hta
          obtain ⟨W2, hW2⟩ : ∃ W2, W2 = wc := ⟨_, rfl⟩
          rw [← hW2] at HF ⊢
          clear hta hW2 hp hp2 b1 HD HV
          have HLQ : Hid (Lim (failO 3 ta o1) L.length L.length) := fail_lim
          go_wp2_with fail
          have HRD := hidden (HF.out.below (below_drew W2))
          have b1 := HF.out.n1
          have hp := HF.out.par.c0
          go_region_law (first
            | (go_simp; go_at_call 43; refine ((function_any HRD.out.any HRD.out.par HDD.out HLQ.out)).mono ?_; rintro en w2 ⟨u, R2, hdo, hc, hli⟩; obtain rfl := hc.en; have HR2 := hidden (HRD.out.step hc.any hc.fr hc.z); have HDO := hidden hdo; have HLI := hidden hli; obtain ⟨k, hk⟩ : ∃ k, k = kidO u := ⟨_, rfl⟩; rw [← hk]; have HK := hidden hk; clear hdo hc hli hk; have c1 := HR2.out.n1; have c2 := (HR2.out.below ((Below.refl _ _).alloc (Nat.le_refl _) (.cells #[.int .i64 k] 3))).n1)
            | (refine step_kid rfl (.tmp 26) (.tmp 29) rfl w0.heap.size w2 (.slice la A lc) acc k (by rfl) (by rfl) HR2.out.now HR2.out.fr.size (by have := HX.out.few; omega) ?_; intro v3 w3 h3 hg3 hw3; obtain ⟨va, vc, hv3⟩ := own_shape5 h3; obtain ⟨R3, hr3, hc3, hf3⟩ := HR2.out.push h3 hg3 hw3; have HR3 := hidden hr3; clear hr3 h3 hg3 hw3; rw [List.length_append, List.length_singleton] at hv3; subst hv3))
          all_goals
            clear hp b1 HRD
            obtain ⟨u1, hu1⟩ : ∃ u1, u1 = u := ⟨_, rfl⟩
            obtain ⟨W3, hW3⟩ : ∃ W3, W3 = w3.setCell ⟨N, 1, none⟩ (.slice va (acc.length + 1) vc) := ⟨_, rfl⟩
            obtain ⟨v2, hv2⟩ : ∃ v2, v2 = Value.slice va (acc.length + 1) vc := ⟨_, rfl⟩
            obtain ⟨R2, hR2⟩ : ∃ R2, R2 = R3 := ⟨_, rfl⟩
            have HU : Hid (Run B g P T L w0 R0 d W3 R2 (toO u1) N 26 v2 (acc ++ [kidO u1]) 0 ⟨#[]⟩ ((0 : Nat) : Int)) := by rw [hW3, hv2, hR2, hu1, ← HK.out]; exact HR3.out
            have HD1 : Hid (Does (failO 3 ta o1) (FFun d) u1) := by rw [hu1]; exact HDO.out
            have HL1 : Hid (∀ n m, Lim (failO 3 ta o1) n m → Lim (toO u1) n m) := by rw [hu1]; exact HLI.out
            clear HR3 HDO HLI
            go_wp2_with fail
            rw [← hW3]
            clear hW3 hv2 hR2 hu1
            have HE : Hid (u1 = .error (3, s.tok.place)) := by
              have h1 := HD1.out
              rw [HS.out, HTP.out] at h1
              exact h1
            have HMS : Hid (lam g L.length W3 < lam g L.length wr) := by
              have h1 := HU.out.any
              rw [HE.out] at h1
              have h2 : Bad B g L W3 R2 d (3, s.tok.place) := h1
              have h3 := HRS.out
              show lam _ _ _ < lam _ _ _
              rw [h2.lam, HLW.out]
              omega
            have HNX : Hid (PrgSt B g P T L w0 R0 d o N W3 R2 (toO u1) v2 (acc ++ [kidO u1])) := by
              refine ⟨HU.out, (by rw [HE.out]; exact Lim.err), (by rw [List.length_append, HA8.out]; simp), (fun s' e => by rw [HE.out] at e; cases e), fun u h => ?_⟩
              rw [HE.out] at h
              rw [show u = _ from h]
              refine HX.out.cont _ ?_
              rw [HS.out]
              exact (PReads.prog_long HB.out (by rw [HA8.out]; decide)).ev
            go_roundw
            case rel => exact ⟨_, R2, _, _, HNX⟩
            case measure => exact HMS.out
      · have h2i : ((A : Int) == 200) = false := by simp; omega
        have HA8 : Hid (acc.length < 200) := by show _ < _; rw [← HA.out]; omega
        clear h2 hA2
        have HLQ : Hid (Lim o1 L.length L.length) := HX.out.lim
        go_wp2_with fail
        clear b1
        have HRD := hidden (HV.out.below (below_drew w1))
        have b1 := HV.out.n1
        have hp := HV.out.par.c0
        go_region_law (first
          | (go_simp; go_at_call 43; refine ((function_any HRD.out.any HRD.out.par HDD.out HLQ.out)).mono ?_; rintro en w2 ⟨u, R2, hdo, hc, hli⟩; obtain rfl := hc.en; have HR2 := hidden (HRD.out.step hc.any hc.fr hc.z); have HDO := hidden hdo; have HLI := hidden hli; obtain ⟨k, hk⟩ : ∃ k, k = kidO u := ⟨_, rfl⟩; rw [← hk]; have HK := hidden hk; clear hdo hc hli hk; have c1 := HR2.out.n1; have c2 := (HR2.out.below ((Below.refl _ _).alloc (Nat.le_refl _) (.cells #[.int .i64 k] 3))).n1)
          | (refine step_kid rfl (.tmp 26) (.tmp 29) rfl w0.heap.size w2 (.slice la A lc) acc k (by rfl) (by rfl) HR2.out.now HR2.out.fr.size (by have := HX.out.few; omega) ?_; intro v3 w3 h3 hg3 hw3; obtain ⟨va, vc, hv3⟩ := own_shape5 h3; obtain ⟨R3, hr3, hc3, hf3⟩ := HR2.out.push h3 hg3 hw3; have HR3 := hidden hr3; clear hr3 h3 hg3 hw3; rw [List.length_append, List.length_singleton] at hv3; subst hv3))
        all_goals
          clear hp b1 HRD
          obtain ⟨u1, hu1⟩ : ∃ u1, u1 = u := ⟨_, rfl⟩
          obtain ⟨W3, hW3⟩ : ∃ W3, W3 = w3.setCell ⟨N, 1, none⟩ (.slice va (acc.length + 1) vc) := ⟨_, rfl⟩
          obtain ⟨v2, hv2⟩ : ∃ v2, v2 = Value.slice va (acc.length + 1) vc := ⟨_, rfl⟩
          obtain ⟨R2, hR2⟩ : ∃ R2, R2 = R3 := ⟨_, rfl⟩
          have HU : Hid (Run B g P T L w0 R0 d W3 R2 (toO u1) N 26 v2 (acc ++ [kidO u1]) 0 ⟨#[]⟩ ((0 : Nat) : Int)) := by rw [hW3, hv2, hR2, hu1, ← HK.out]; exact HR3.out
          have HD1 : Hid (Does o1 (FFun d) u1) := by rw [hu1]; exact HDO.out
          have HL1 : Hid (∀ n m, Lim o1 n m → Lim (toO u1) n m) := by rw [hu1]; exact HLI.out
          clear HR3 HDO HLI
          go_wp2_with fail
          rw [← hW3]
          clear hW3 hv2 hR2 hu1
          have HE : Hid (Does (.ok s) (FFun d) u1) := by have h1 := HD1.out; rw [HS.out] at h1; exact h1
          have HMS : Hid (lam g L.length W3 < lam g L.length wr) := by
            have h0 := HU.out.any
            have h3 := HRS.out
            show lam _ _ _ < lam _ _ _
            rw [HLW.out]
            match u1, HE, h0 with
            | .error f, _, h0 =>
              have h2 : Bad B g L W3 R2 d f := h0
              rw [h2.lam]
              omega
            | .ok (l, s1), HE, h0 =>
              have h2 : Good B g L W3 R2 d s1 := h0
              have h4 := (PReads.left (fun acc e => by cases e) (fun_reads HB.out HE.out)).toks
              have h5 := is_some HB.out
              rw [h2.lam]
              omega
          have HNX : Hid (PrgSt B g P T L w0 R0 d o N W3 R2 (toO u1) v2 (acc ++ [kidO u1])) := by
            refine ⟨HU.out, HL1.out _ _ HX.out.lim, by rw [List.length_append, List.length_singleton]; have := HA8.out; omega, fun s' e => by rw [List.length_append, List.length_singleton]; have := HA8.out; omega, fun u h => ?_⟩
            refine HX.out.cont _ ?_
            rw [HS.out]
            exact prog_step HB.out HA8.out HE.out h
          go_roundw
          case rel => exact ⟨_, R2, _, _, HNX⟩
          case measure => exact HMS.out
    · have HB := hidden hb
      clear hb
      have hp := HV.out.par.c0
      go_wp2_with fail
      refine (any_token HV.out.any).mono ?_
      rintro en w2 ⟨tk, tn, ta, tx, rfl, hta, hb⟩
      replace HV := hidden (HV.out.below hb)
      have HTA := hidden hta
      clear hb hta hp
      obtain ⟨W4, hW4⟩ : ∃ W4, W4 = w2.alloc (.cells #[.int .i64 (tk : Int), .string tx, .int .i64 (tn : Int), .int .i64 (ta : Int)] 49) := ⟨_, rfl⟩
      obtain ⟨G, hG⟩ : ∃ G, G = w2.heap.size := ⟨_, rfl⟩
      have HGT : Hid (Held W4 G 49 #[.int .i64 (tk : Int), .string tx, .int .i64 (tn : Int), .int .i64 (ta : Int)]) := by rw [hW4, hG]; exact Held.new _ _ _
      have hb4 : Below w2.heap.size w2 W4 := by rw [hW4]; exact (Below.refl _ _).alloc (Nat.le_refl _) _
      replace HV := hidden (HV.out.below hb4)
      clear hb4
      go_upto_region 6 with fail
      rw [← hW4, ← hG]
      clear hW4 hG
      have z0 := HGT.out.t0
      have z3 := HGT.out.t3
      have hp := HV.out.par.c0
      by_cases hk0 : tk = 0
      · subst hk0
        clear hp
        have hp := HV.out.par.c0
        have b0 := HV.out.n0
        have b1 := HV.out.n1
        have b2 := HV.out.n2
        have b3 := HV.out.n3
        have b4 := HV.out.n4
        go_wp2_with fail
        go_still_tail 5, (by kernel_rfl)
        change wpList _ _ _ _ _ W4.drew
        have HZ := hidden (HV.out.below (below_drew W4))
        go_wp2_with fail
        refine (any_put _ _ _ _ _ 0 HZ.out.any HZ.out.now HX.out.lim (by have := HX.out.few; omega)).mono ?_
        rintro en wz ⟨uz, Rz, hdo, hc, hli⟩
        obtain rfl := hc.en
        have HCz := hidden (HZ.out.came hc)
        have HDz := hidden hdo
        clear hdo hc hli
        go_wp2_with fail
        go_end0
        have hw0 := HW0.out
        have hR0 := HR0.out
        subst hw0 hR0
        exact ⟨uz, _, ⟨_, rfl⟩, HX.out.cont uz (prog_last (fun s hs => (HTA.out s hs).1.symm) HDz.out), HCz.out.fr, HCz.out.any⟩
      · have hk1 : ((tk : Int) != 0) = true := by simp; omega
        have HK0 := hidden hk0
        go_wp2_with fail
        go_still_tail 6, (by kernel_rfl)
        change wpList _ _ _ _ _ W4.drew
        replace HV := hidden (HV.out.below (below_drew W4))
        clear hp z0 z3
        go_wp2_with fail
        refine (any_fail 8 ta (by decide) HV.out.any).mono ?_
        rintro en w5 ⟨⟨x5, rfl⟩, ha, hf⟩
        replace HV := hidden (HV.out.step ha hf rfl)
        clear ha hf
        have hp := HV.out.par.c0
        have b0 := HV.out.n0
        have b1 := HV.out.n1
        have b2 := HV.out.n2
        have b3 := HV.out.n3
        have b4 := HV.out.n4
        go_wp2_with fail
        go_still_tail 5, (by kernel_rfl)
        change wpList _ _ _ _ _ w5.drew
        have HZ := hidden (HV.out.below (below_drew w5))
        go_wp2_with fail
        refine (any_put _ _ _ _ _ 0 HZ.out.any HZ.out.now fail_lim (by have := HX.out.few; omega)).mono ?_
        rintro en wz ⟨uz, Rz, hdo, hc, hli⟩
        obtain rfl := hc.en
        have HCz := hidden (HZ.out.came hc)
        have HDz := hidden hdo
        clear hdo hc hli
        go_wp2_with fail
        go_end0
        have hw0 := HW0.out
        have hR0 := HR0.out
        subst hw0 hR0
        exact ⟨uz, _, ⟨_, rfl⟩, HX.out.cont uz (prog_other (fun s hs => HTA.out s hs) HK0.out HB.out HDz.out), HCz.out.fr, HCz.out.any⟩
end Go.Proofs.YtagacfcpepoaoaaGreatDoor
