/- ParseIf, ParseFor, in one text. -/
import Derived.Test.YtagacfcpepoaoaaGreatDoorParseStmt
namespace Go.Proofs.YtagacfcpepoaoaaGreatDoor
open Go.RowKit
set_option linter.unusedVariables false

variable {B g P T N : Nat} {L : List Tk} {w0 w w' : World} {R0 R R' : Bx} {d : Nat} {o : Except Flt PS} {v : Value} {acc : List Int} {K n : Int} {S : ByteArray}
set_option maxRecDepth 100000 in
set_option maxHeartbeats 8000000 in
theorem choice_any {a M : Nat} (hB : CBlock B g P T L M) (H : Any B g L w R d o) (hP : Par w g P T) (hd : d ≤ 200) (hl : Lim o L.length M) :
    Calls Tryz.prog 35 #[.pointer (some ⟨P, 0, none⟩), .agg #[.int .i64 K, .slice none 0 0, .int .i64 0, .string ⟨#[]⟩, .int .i64 (a : Int)]] w fun en w' => ∃ u R', Does o (fun s m => needEx m d s fun k s1 => Out.go (prd m .block d s1) fun b s2 => if s2.is wElse then Out.go (prd m .block d s2.next) fun c s3 => some (lay (En K [k, hd1 b, hd1 c] 0 ⟨#[]⟩ (a : Int)) s3) else some (lay (En K [k, hd1 b] 0 ⟨#[]⟩ (a : Int)) s2)) u ∧ Came B g L w R d u en w' R' ∧ ∀ n m, Lim o n m → Lim (toO u) (n + 1) m := by
  obtain ⟨W, hW⟩ : ∃ W, W = w.alloc (.cells #[.int .i64 K, .slice none 0 0, .int .i64 0, .string ⟨#[]⟩, .int .i64 (a : Int)] 59) := ⟨_, rfl⟩
  obtain ⟨N, hN⟩ : ∃ N, N = w.heap.size := ⟨_, rfl⟩
  obtain ⟨w0, hw0⟩ : ∃ w0, w0 = w := ⟨_, rfl⟩
  obtain ⟨R0, hR0⟩ : ∃ R0, R0 = R := ⟨_, rfl⟩
  have HR : Hid (Run B g P T L w0 R0 d W R o N K (.slice none 0 0) [] 0 ⟨#[]⟩ (a : Int)) := by rw [hW, hN, hw0, hR0]; exact (Pre.start H hP).node K 0 ⟨#[]⟩ a
  have HW0 := hidden hw0
  have HR0 := hidden hR0
  clear hw0 hR0
  have HDD := hidden hd
  have HL := hidden hl
  have HBL := hidden hB
  clear H hP hd hl hB
  have HLL : Hid (Lim o L.length L.length) := HL.out.self
  go_enter Tryz.func35, Tryz.ntmps35
  go_wp2_with fail
  rw [← hW, ← hN]
  clear hW hN
  have HRD := hidden (HR.out.below (below_drew W))
  have b1 := HR.out.n1
  have hp := HR.out.par.c0
  go_cut [] (fun wx => Hid (Pushed B g P T L w0 R0 d o (fun s n => rd n (.chain 0) d s) N K [] 0 ⟨#[]⟩ (a : Int) wx))
  case first =>
    go_region_law (first
      | (go_simp; go_at_call 65; refine ((any_expr HRD.out.any (fun s hs => HDD.out))).mono ?_; rintro en w2 ⟨u, R2, hdo, hc, hli⟩; obtain rfl := hc.en; have HR2 := hidden (HRD.out.step hc.any hc.fr hc.z); have HDO := hidden hdo; have HLI := hidden hli; obtain ⟨k, hk⟩ : ∃ k, k = kidO u := ⟨_, rfl⟩; rw [← hk]; have HK := hidden hk; clear hdo hc hli hk; have c1 := HR2.out.n1; have c2 := (HR2.out.below ((Below.refl _ _).alloc (Nat.le_refl _) (.cells #[.int .i64 k] 3))).n1)
      | (refine step_kid rfl (.tmp 6) (.tmp 12) rfl w0.heap.size w2 (.slice none 0 0) [] k (by rfl) (by rfl) HR2.out.now HR2.out.fr.size (by simp) ?_; intro v3 w3 h3 hg3 hw3; obtain ⟨va, vc, hv3⟩ := own_shape5 h3; obtain ⟨R3, hr3, hc3, hf3⟩ := HR2.out.push h3 hg3 hw3; have HR3 := hidden hr3; clear hr3 h3 hg3 hw3; rw [List.length_append, List.length_singleton] at hv3; subst hv3))
    all_goals
      go_wp2_with fail
      go_meet
      exact ⟨u, R3, _, HDO.out, HLI.out, by rw [← HK.out]; exact HR3.out⟩
  case rest =>
    obtain ⟨u1, R1, v1, hdo, hli, hr⟩ := hcut.out
    obtain ⟨W1, hwc⟩ : ∃ W1, W1 = wc := ⟨_, rfl⟩
    rw [← hwc] at hr ⊢
    have HX := hidden hr
    have HD1 := hidden hdo
    have HL1 := hidden hli
    clear hcut hdo hli hr hwc hp b1 HRD
    go_wp2_with fail
    have HRD := hidden (HX.out.below (below_drew W1))
    have b1 := HX.out.n1
    have hp := HX.out.par.c0
    go_cut [] (fun wx => Hid (Pushed B g P T L w0 R0 d (toO u1) (fun s n => prd n .block d s) N K ([] ++ [kidO u1]) 0 ⟨#[]⟩ (a : Int) wx))
    case first =>
      go_region_law (first
        | (go_simp; go_at_call 66; refine ((HBL.out.use HRD.out.any HRD.out.par HDD.out (HL1.out _ _ HL.out))).mono ?_; rintro en w2 ⟨u, R2, hdo, hc, hli⟩; obtain rfl := hc.en; have HR2 := hidden (HRD.out.step hc.any hc.fr hc.z); have HDO := hidden hdo; have HLI := hidden hli; obtain ⟨k, hk⟩ : ∃ k, k = kidO u := ⟨_, rfl⟩; rw [← hk]; have HK := hidden hk; clear hdo hc hli hk; have c1 := HR2.out.n1; have c2 := (HR2.out.below ((Below.refl _ _).alloc (Nat.le_refl _) (.cells #[.int .i64 k] 3))).n1)
        | (refine step_kid rfl (.tmp 16) (.tmp 19) rfl w0.heap.size w2 v1 ([] ++ [kidO u1]) k (by rfl) (by rfl) HR2.out.now HR2.out.fr.size (by simp) ?_; intro v3 w3 h3 hg3 hw3; obtain ⟨va, vc, hv3⟩ := own_shape5 h3; obtain ⟨R3, hr3, hc3, hf3⟩ := HR2.out.push h3 hg3 hw3; have HR3 := hidden hr3; clear hr3 h3 hg3 hw3; rw [List.length_append, List.length_singleton] at hv3; subst hv3))
      all_goals
        go_wp2_with fail
        go_meet
        exact ⟨u, R3, _, HDO.out, HLI.out, by rw [← HK.out]; exact HR3.out⟩
    case rest =>
      obtain ⟨u2, R2, v2, hdo, hli, hr⟩ := hcut.out
      obtain ⟨W2, hwc⟩ : ∃ W2, W2 = wc := ⟨_, rfl⟩
      rw [← hwc] at hr ⊢
      have HY := hidden hr
      have HD2 := hidden hdo
      have HL3 := hidden hli
      clear hcut hdo hli hr hwc hp b1 HRD
      have hp := HY.out.par.c0
      go_wp2_with fail
      refine (any_skip wElse HY.out.any).mono ?_
      rintro en w3 ⟨c, o', rfl, ha, hf, hc⟩
      have HV := hidden (HY.out.step ha hf rfl)
      clear ha hf hp
      rcases hc with ⟨rfl, s, hs, hb, ho⟩ | ⟨rfl, ho, hb⟩
      · rw [ho] at HV
        have HS := hidden hs
        have HB := hidden hb
        clear ho hs hb
        have HLN : Hid (∀ n m, Lim o n m → Lim (.ok s.next) n m) := fun n m h => ((HS.out ▸ (HL3.out _ _ (HL1.out _ _ h)) : Lim (.ok s) n m).next_le HB.out).mono (by omega) (by omega)
        go_wp2_with fail
        have HRD := hidden (HV.out.below (below_drew w3))
        have b1 := HV.out.n1
        have hp := HV.out.par.c0
        go_cut [] (fun wx => Hid (Pushed B g P T L w0 R0 d (.ok s.next) (fun s n => prd n .block d s) N K ([] ++ [kidO u1] ++ [kidO u2]) 0 ⟨#[]⟩ (a : Int) wx))
        case first =>
          go_region_law (first
            | (go_simp; go_at_call 66; refine ((HBL.out.use HRD.out.any HRD.out.par HDD.out (HLN.out _ _ HL.out))).mono ?_; rintro en w2 ⟨u, R2, hdo, hc, hli⟩; obtain rfl := hc.en; have HR2 := hidden (HRD.out.step hc.any hc.fr hc.z); have HDO := hidden hdo; have HLI := hidden hli; obtain ⟨k, hk⟩ : ∃ k, k = kidO u := ⟨_, rfl⟩; rw [← hk]; have HK := hidden hk; clear hdo hc hli hk; have c1 := HR2.out.n1; have c2 := (HR2.out.below ((Below.refl _ _).alloc (Nat.le_refl _) (.cells #[.int .i64 k] 3))).n1)
            | (refine step_kid rfl (.tmp 28) (.tmp 31) rfl w0.heap.size w2 v2 ([] ++ [kidO u1] ++ [kidO u2]) k (by rfl) (by rfl) HR2.out.now HR2.out.fr.size (by simp) ?_; intro v3 w3 h3 hg3 hw3; obtain ⟨va, vc, hv3⟩ := own_shape5 h3; obtain ⟨R3, hr3, hc3, hf3⟩ := HR2.out.push h3 hg3 hw3; have HR3 := hidden hr3; clear hr3 h3 hg3 hw3; rw [List.length_append, List.length_singleton] at hv3; subst hv3))
          all_goals
            go_wp2_with fail
            go_meet
            exact ⟨u, R3, _, HDO.out, HLI.out, by rw [← HK.out]; exact HR3.out⟩
        case rest =>
          obtain ⟨u3, R3, v3, hdo, hli, hr⟩ := hcut.out
          obtain ⟨W4, hwc⟩ : ∃ W4, W4 = wc := ⟨_, rfl⟩
          rw [← hwc] at hr ⊢
          have HU := hidden hr
          have HD3 := hidden hdo
          have HL4 := hidden hli
          clear hcut hdo hli hr hwc hp b1 HRD
          have hp := HU.out.par.c0
          have b0 := HU.out.n0
          have b1 := HU.out.n1
          have b2 := HU.out.n2
          have b3 := HU.out.n3
          have b4 := HU.out.n4
          go_wp2_with fail
          go_still_tail 5, (by kernel_rfl)
          change wpList _ _ _ _ _ W4.drew
          have HZ := hidden (HU.out.below (below_drew W4))
          go_wp2_with fail
          refine (any_put _ _ _ _ _ _ HZ.out.any HZ.out.now (HL4.out _ _ (HLN.out _ _ HLL.out)) (by simp)).mono ?_
          rintro en wz ⟨uz, Rz, hdo, hc, hli⟩
          obtain rfl := hc.en
          have HCz := hidden (HZ.out.came hc)
          have HDz := hidden hdo
          have HLz := hidden hli
          clear hdo hc hli
          go_wp2_with fail
          go_ret
          have hw0 := HW0.out
          have hR0 := HR0.out
          subst hw0 hR0
          exact ⟨uz, _, Does.ex (G := fun k s1 m => Out.go (prd m .block d s1) fun b s2 => if s2.is wElse then Out.go (prd m .block d s2.next) fun c s3 => some (lay (En K [k, hd1 b, hd1 c] 0 ⟨#[]⟩ (a : Int)) s3) else some (lay (En K [k, hd1 b] 0 ⟨#[]⟩ (a : Int)) s2)) HD1.out (Does.go (G := fun b s2 m => if s2.is wElse then Out.go (prd m .block d s2.next) fun c s3 => some (lay (En K [kidO u1, b, hd1 c] 0 ⟨#[]⟩ (a : Int)) s3) else some (lay (En K [kidO u1, b] 0 ⟨#[]⟩ (a : Int)) s2)) HD2.out (Does.ite_yes (X := fun s3 m => Out.go (prd m .block d s3) fun c s4 => some (lay (En K [kidO u1, kidO u2, hd1 c] 0 ⟨#[]⟩ (a : Int)) s4)) (Y := fun s3 m => some (lay (En K [kidO u1, kidO u2] 0 ⟨#[]⟩ (a : Int)) s3)) HS.out HB.out (Does.go (G := fun c s4 m => some (lay (En K [kidO u1, kidO u2, c] 0 ⟨#[]⟩ (a : Int)) s4)) HD3.out HDz.out))), HCz.out, fun n m h => HLz.out n m (HL4.out _ _ (HLN.out _ _ h))⟩
      · rw [ho] at HV
        have HB := hidden hb
        clear ho hb
        have hp := HV.out.par.c0
        have b0 := HV.out.n0
        have b1 := HV.out.n1
        have b2 := HV.out.n2
        have b3 := HV.out.n3
        have b4 := HV.out.n4
        go_wp2_with fail
        go_still_tail 5, (by kernel_rfl)
        change wpList _ _ _ _ _ w3.drew
        have HZ := hidden (HV.out.below (below_drew w3))
        go_wp2_with fail
        refine (any_put _ _ _ _ _ _ HZ.out.any HZ.out.now (HL3.out _ _ (HL1.out _ _ HLL.out)) (by simp)).mono ?_
        rintro en wz ⟨uz, Rz, hdo, hc, hli⟩
        obtain rfl := hc.en
        have HCz := hidden (HZ.out.came hc)
        have HDz := hidden hdo
        have HLz := hidden hli
        clear hdo hc hli
        go_wp2_with fail
        go_ret
        have hw0 := HW0.out
        have hR0 := HR0.out
        subst hw0 hR0
        exact ⟨uz, _, Does.ex (G := fun k s1 m => Out.go (prd m .block d s1) fun b s2 => if s2.is wElse then Out.go (prd m .block d s2.next) fun c s3 => some (lay (En K [k, hd1 b, hd1 c] 0 ⟨#[]⟩ (a : Int)) s3) else some (lay (En K [k, hd1 b] 0 ⟨#[]⟩ (a : Int)) s2)) HD1.out (Does.go (G := fun b s2 m => if s2.is wElse then Out.go (prd m .block d s2.next) fun c s3 => some (lay (En K [kidO u1, b, hd1 c] 0 ⟨#[]⟩ (a : Int)) s3) else some (lay (En K [kidO u1, b] 0 ⟨#[]⟩ (a : Int)) s2)) HD2.out (Does.ite_no (X := fun s3 m => Out.go (prd m .block d s3.next) fun c s4 => some (lay (En K [kidO u1, kidO u2, hd1 c] 0 ⟨#[]⟩ (a : Int)) s4)) (Y := fun s3 m => some (lay (En K [kidO u1, kidO u2] 0 ⟨#[]⟩ (a : Int)) s3)) HB.out HDz.out)), HCz.out, fun n m h => HLz.out n m (HL3.out _ _ (HL1.out _ _ h))⟩
end Go.Proofs.YtagacfcpepoaoaaGreatDoor

namespace Go.Proofs.YtagacfcpepoaoaaGreatDoor
open Go.RowKit
set_option linter.unusedVariables false

variable {B g P T N : Nat} {L : List Tk} {w0 w w' : World} {R0 R R' : Bx} {d : Nat} {o : Except Flt PS} {v : Value} {acc : List Int} {K n : Int} {S : ByteArray}
set_option maxRecDepth 100000 in
set_option maxHeartbeats 8000000 in
theorem count_any {a M : Nat} (hB : CBlock B g P T L M) (H : Any B g L w R d o) (hP : Par w g P T) (hd : d ≤ 200) (hl : Lim o L.length M) :
    Calls Tryz.prog 37 #[.pointer (some ⟨P, 0, none⟩), .agg #[.int .i64 K, .slice none 0 0, .int .i64 0, .string ⟨#[]⟩, .int .i64 (a : Int)]] w fun en w' => ∃ u R', Does o (fun s m => needName s fun nm at_ s0 => need eqs s0 fun s1 => needEx m d s1 fun k s2 => need comma s2 fun s3 => needEx m d s3 fun j s4 => Out.go (prd m .block d s4) fun c s5 => some (lay (En K [k, j, hd1 c] 0 nm (at_ : Int)) s5)) u ∧ Came B g L w R d u en w' R' ∧ ∀ n m, Lim o n m → Lim (toO u) (n + 1) m := by
  obtain ⟨W, hW⟩ : ∃ W, W = w.alloc (.cells #[.int .i64 K, .slice none 0 0, .int .i64 0, .string ⟨#[]⟩, .int .i64 (a : Int)] 59) := ⟨_, rfl⟩
  obtain ⟨N, hN⟩ : ∃ N, N = w.heap.size := ⟨_, rfl⟩
  obtain ⟨w0, hw0⟩ : ∃ w0, w0 = w := ⟨_, rfl⟩
  obtain ⟨R0, hR0⟩ : ∃ R0, R0 = R := ⟨_, rfl⟩
  have HR : Hid (Run B g P T L w0 R0 d W R o N K (.slice none 0 0) [] 0 ⟨#[]⟩ (a : Int)) := by rw [hW, hN, hw0, hR0]; exact (Pre.start H hP).node K 0 ⟨#[]⟩ a
  have HW0 := hidden hw0
  have HR0 := hidden hR0
  clear hw0 hR0
  have b0 := HR.out.n0
  have HDD := hidden hd
  have HL := hidden hl
  have HBL := hidden hB
  clear H hP hd hl hB
  have HLL : Hid (Lim o L.length L.length) := HL.out.self
  go_enter Tryz.func37, Tryz.ntmps37
  rw [veil 1, veil 2]
  go_wp2_with fail
  rw [← hW, ← hN]
  clear hW hN
  refine wp_veil ?_
  go_wp2_with fail
  refine (pnamed_any HR.out.any HR.out.par K).mono ?_
  rintro en w1 ⟨ta, rfl, hta, ha, hf⟩
  replace HR := hidden (HR.out.step ha hf rfl)
  have HTA := hidden hta
  obtain ⟨X, hX⟩ : ∃ X, X = nmO o := ⟨_, rfl⟩
  rw [← hX]
  have HX := hidden hX
  clear ha hf hta hX b0
  have b0 := HR.out.n0
  have b1 := HR.out.n1
  have b2 := HR.out.n2
  have b3 := HR.out.n3
  have b4 := HR.out.n4
  have g0 := HR.out.box.frozen 0
  have g1 := HR.out.box.frozen 1
  have g2 := HR.out.box.frozen 2
  have g3 := HR.out.box.frozen 3
  have g4 := HR.out.box.frozen 4
  go_wp2_with fail
  have HS := hidden (HR.out.store5 K 0 X (ta : Int))
  obtain ⟨W5, hW5⟩ : ∃ W5, W5 = (((((w1.setCell ⟨N, 0, none⟩ (.int .i64 K)).setCell ⟨N, 1, none⟩ (.slice none 0 0)).setCell ⟨N, 2, none⟩ (.int .i64 0)).setCell ⟨N, 3, none⟩ (.string X)).setCell ⟨N, 4, none⟩ (.int .i64 (ta : Int))) := ⟨_, rfl⟩
  rw [← hW5] at HS ⊢
  clear hW5 b0 b1 b2 b3 b4 g0 g1 g2 g3 g4 HR
  have hp := HS.out.par.c0
  refine wp_veil ?_
  go_wp2_with fail
  refine (any_want eqs HS.out.any).mono ?_
  rintro en w6 ⟨⟨x, rfl⟩, ha, hf⟩
  have HQ := hidden (HS.out.step ha hf rfl)
  clear ha hf hp HS
  have HLA : Hid (∀ n m, Lim o n m → Lim (needO eqs (nameO o)) n m) := fun n m h => Lim.need_le (Lim.name_le h)
  go_wp2_with fail
  have HRD := hidden (HQ.out.below (below_drew w6))
  have b1 := HQ.out.n1
  have hp := HQ.out.par.c0
  go_cut [] (fun wx => Hid (Pushed B g P T L w0 R0 d (needO eqs (nameO o)) (fun s n => rd n (.chain 0) d s) N K [] 0 X (ta : Int) wx))
  case first =>
    go_region_law (first
      | (go_simp; go_at_call 65; refine ((any_expr HRD.out.any (fun s hs => HDD.out))).mono ?_; rintro en w2 ⟨u, R2, hdo, hc, hli⟩; obtain rfl := hc.en; have HR2 := hidden (HRD.out.step hc.any hc.fr hc.z); have HDO := hidden hdo; have HLI := hidden hli; obtain ⟨k, hk⟩ : ∃ k, k = kidO u := ⟨_, rfl⟩; rw [← hk]; have HK := hidden hk; clear hdo hc hli hk; have c1 := HR2.out.n1; have c2 := (HR2.out.below ((Below.refl _ _).alloc (Nat.le_refl _) (.cells #[.int .i64 k] 3))).n1)
      | (refine step_kid rfl (.tmp 15) (.tmp 21) rfl w0.heap.size w2 (.slice none 0 0) [] k (by rfl) (by rfl) HR2.out.now HR2.out.fr.size (by simp) ?_; intro v3 w3 h3 hg3 hw3; obtain ⟨va, vc, hv3⟩ := own_shape5 h3; obtain ⟨R3, hr3, hc3, hf3⟩ := HR2.out.push h3 hg3 hw3; have HR3 := hidden hr3; clear hr3 h3 hg3 hw3; rw [List.length_append, List.length_singleton] at hv3; subst hv3))
    all_goals
      go_wp2_with fail
      go_meet
      exact ⟨u, R3, _, HDO.out, HLI.out, by rw [← HK.out]; exact HR3.out⟩
  case rest =>
    obtain ⟨u1, R1, v1, hdo, hli, hr⟩ := hcut.out
    obtain ⟨W7, hwc⟩ : ∃ W7, W7 = wc := ⟨_, rfl⟩
    rw [← hwc] at hr ⊢
    have HU := hidden hr
    have HD1 := hidden hdo
    have HL1 := hidden hli
    clear hcut hdo hli hr hwc hp b1 HRD
    have hp := HU.out.par.c0
    go_wp2_with fail
    refine (any_want comma HU.out.any).mono ?_
    rintro en w8 ⟨⟨x8, rfl⟩, ha, hf⟩
    have HV := hidden (HU.out.step ha hf rfl)
    clear ha hf hp
    have HLB : Hid (∀ n m, Lim o n m → Lim (needO comma (toO u1)) n m) := fun n m h => Lim.need_le (HL1.out _ _ (HLA.out _ _ h))
    go_wp2_with fail
    have HRD := hidden (HV.out.below (below_drew w8))
    have b1 := HV.out.n1
    have hp := HV.out.par.c0
    go_cut [] (fun wx => Hid (Pushed B g P T L w0 R0 d (needO comma (toO u1)) (fun s n => rd n (.chain 0) d s) N K ([] ++ [kidO u1]) 0 X (ta : Int) wx))
    case first =>
      go_region_law (first
        | (go_simp; go_at_call 65; refine ((any_expr HRD.out.any (fun s hs => HDD.out))).mono ?_; rintro en w2 ⟨u, R2, hdo, hc, hli⟩; obtain rfl := hc.en; have HR2 := hidden (HRD.out.step hc.any hc.fr hc.z); have HDO := hidden hdo; have HLI := hidden hli; obtain ⟨k, hk⟩ : ∃ k, k = kidO u := ⟨_, rfl⟩; rw [← hk]; have HK := hidden hk; clear hdo hc hli hk; have c1 := HR2.out.n1; have c2 := (HR2.out.below ((Below.refl _ _).alloc (Nat.le_refl _) (.cells #[.int .i64 k] 3))).n1)
        | (refine step_kid rfl (.tmp 30) (.tmp 36) rfl w0.heap.size w2 v1 ([] ++ [kidO u1]) k (by rfl) (by rfl) HR2.out.now HR2.out.fr.size (by simp) ?_; intro v3 w3 h3 hg3 hw3; obtain ⟨va, vc, hv3⟩ := own_shape5 h3; obtain ⟨R3, hr3, hc3, hf3⟩ := HR2.out.push h3 hg3 hw3; have HR3 := hidden hr3; clear hr3 h3 hg3 hw3; rw [List.length_append, List.length_singleton] at hv3; subst hv3))
      all_goals
        go_wp2_with fail
        go_meet
        exact ⟨u, R3, _, HDO.out, HLI.out, by rw [← HK.out]; exact HR3.out⟩
    case rest =>
      obtain ⟨u2, R2, v2, hdo, hli, hr⟩ := hcut.out
      obtain ⟨W9, hwc⟩ : ∃ W9, W9 = wc := ⟨_, rfl⟩
      rw [← hwc] at hr ⊢
      have HY := hidden hr
      have HD2 := hidden hdo
      have HL3 := hidden hli
      clear hcut hdo hli hr hwc hp b1 HRD
      go_wp2_with fail
      have HRD := hidden (HY.out.below (below_drew W9))
      have b1 := HY.out.n1
      have hp := HY.out.par.c0
      go_cut [] (fun wx => Hid (Pushed B g P T L w0 R0 d (toO u2) (fun s n => prd n .block d s) N K ([] ++ [kidO u1] ++ [kidO u2]) 0 X (ta : Int) wx))
      case first =>
        go_region_law (first
          | (go_simp; go_at_call 66; refine ((HBL.out.use HRD.out.any HRD.out.par HDD.out (HL3.out _ _ (HLB.out _ _ HL.out)))).mono ?_; rintro en w2 ⟨u, R2, hdo, hc, hli⟩; obtain rfl := hc.en; have HR2 := hidden (HRD.out.step hc.any hc.fr hc.z); have HDO := hidden hdo; have HLI := hidden hli; obtain ⟨k, hk⟩ : ∃ k, k = kidO u := ⟨_, rfl⟩; rw [← hk]; have HK := hidden hk; clear hdo hc hli hk; have c1 := HR2.out.n1; have c2 := (HR2.out.below ((Below.refl _ _).alloc (Nat.le_refl _) (.cells #[.int .i64 k] 3))).n1)
          | (refine step_kid rfl (.tmp 40) (.tmp 43) rfl w0.heap.size w2 v2 ([] ++ [kidO u1] ++ [kidO u2]) k (by rfl) (by rfl) HR2.out.now HR2.out.fr.size (by simp) ?_; intro v3 w3 h3 hg3 hw3; obtain ⟨va, vc, hv3⟩ := own_shape5 h3; obtain ⟨R3, hr3, hc3, hf3⟩ := HR2.out.push h3 hg3 hw3; have HR3 := hidden hr3; clear hr3 h3 hg3 hw3; rw [List.length_append, List.length_singleton] at hv3; subst hv3))
        all_goals
          go_wp2_with fail
          go_meet
          exact ⟨u, R3, _, HDO.out, HLI.out, by rw [← HK.out]; exact HR3.out⟩
      case rest =>
        obtain ⟨u3, R3, v3, hdo, hli, hr⟩ := hcut.out
        obtain ⟨W10, hwc⟩ : ∃ W10, W10 = wc := ⟨_, rfl⟩
        rw [← hwc] at hr ⊢
        have HZ0 := hidden hr
        have HD3 := hidden hdo
        have HL4 := hidden hli
        clear hcut hdo hli hr hwc hp b1 HRD
        have hp := HZ0.out.par.c0
        have b0 := HZ0.out.n0
        have b1 := HZ0.out.n1
        have b2 := HZ0.out.n2
        have b3 := HZ0.out.n3
        have b4 := HZ0.out.n4
        go_wp2_with fail
        go_still_tail 5, (by kernel_rfl)
        change wpList _ _ _ _ _ W10.drew
        have HZ := hidden (HZ0.out.below (below_drew W10))
        go_wp2_with fail
        refine (any_put _ _ _ _ _ _ HZ.out.any HZ.out.now (HL4.out _ _ (HL3.out _ _ (HLB.out _ _ HLL.out))) (by simp)).mono ?_
        rintro en wz ⟨uz, Rz, hdo, hc, hli⟩
        obtain rfl := hc.en
        have HCz := hidden (HZ.out.came hc)
        have HDz := hidden hdo
        have HLz := hidden hli
        clear hdo hc hli
        go_wp2_with fail
        go_ret
        have hw0 := HW0.out
        have hR0 := HR0.out
        subst hw0 hR0
        exact ⟨uz, _, Does.name (G := fun nm at_ s0 m => need eqs s0 fun s1 => needEx m d s1 fun k s2 => need comma s2 fun s3 => needEx m d s3 fun j s4 => Out.go (prd m .block d s4) fun c s5 => some (lay (En K [k, j, hd1 c] 0 nm (at_ : Int)) s5)) HTA.out (by rw [← HX.out]; exact Does.need (b := eqs) (G := fun s1 m => needEx m d s1 fun k s2 => need comma s2 fun s3 => needEx m d s3 fun j s4 => Out.go (prd m .block d s4) fun c s5 => some (lay (En K [k, j, hd1 c] 0 X (ta : Int)) s5)) (Does.ex (G := fun k s2 m => need comma s2 fun s3 => needEx m d s3 fun j s4 => Out.go (prd m .block d s4) fun c s5 => some (lay (En K [k, j, hd1 c] 0 X (ta : Int)) s5)) HD1.out (Does.need (b := comma) (G := fun s3 m => needEx m d s3 fun j s4 => Out.go (prd m .block d s4) fun c s5 => some (lay (En K [kidO u1, j, hd1 c] 0 X (ta : Int)) s5)) (Does.ex (G := fun j s4 m => Out.go (prd m .block d s4) fun c s5 => some (lay (En K [kidO u1, j, hd1 c] 0 X (ta : Int)) s5)) HD2.out (Does.go (G := fun c s5 m => some (lay (En K [kidO u1, kidO u2, c] 0 X (ta : Int)) s5)) HD3.out HDz.out))))), HCz.out, fun n m h => HLz.out n m (HL4.out _ _ (HL3.out _ _ (HLB.out _ _ h)))⟩
end Go.Proofs.YtagacfcpepoaoaaGreatDoor
