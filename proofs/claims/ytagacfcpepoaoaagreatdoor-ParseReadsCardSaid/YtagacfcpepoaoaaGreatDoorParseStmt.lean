/- The walks through the parser's statements. -/
import Derived.Test.YtagacfcpepoaoaaGreatDoorParseKind
namespace Go.Proofs.YtagacfcpepoaoaaGreatDoor
open Go.RowKit
set_option linter.unusedVariables false

variable {B g P T N : Nat} {L : List Tk} {w0 w w' : World} {R0 R R' : Bx} {d : Nat} {o : Except Flt PS} {v : Value} {acc : List Int} {K n : Int} {S : ByteArray}
/-- a block that is read, while few tokens are left -/
def CBlock (B g P T : Nat) (L : List Tk) (M : Nat) : Prop := ∀ (w : World) (R : Bx) (d : Nat) (o : Except Flt PS), Any B g L w R d o → Par w g P T → d ≤ 200 → Lim o L.length M →
  Calls Tryz.prog 66 #[.pointer (some ⟨P, 0, none⟩)] w fun en w' => ∃ u R', Does o (fun s n => prd n .block d s) u ∧ Came B g L w R d u en w' R'
theorem CBlock.use {M : Nat} (h : CBlock B g P T L M) (H : Any B g L w R d o) (hP : Par w g P T) (hd : d ≤ 200) (hl : Lim o L.length M) :
    Calls Tryz.prog 66 #[.pointer (some ⟨P, 0, none⟩)] w fun en w' => ∃ u R', Does o (fun s n => prd n .block d s) u ∧ Came B g L w R d u en w' R' ∧ ∀ n m, Lim o n m → Lim (toO u) n m :=
  (h w R d o H hP hd hl).mono fun en w' ⟨u, R', h1, h2⟩ => ⟨u, R', h1, h2, h1.left (fun acc e => by cases e)⟩
set_option maxRecDepth 100000 in
theorem let_any {a : Nat} (H : Any B g L w R d o) (hP : Par w g P T) (hd : ∀ s, o = .ok s → d ≤ 200) (hl : Lim o L.length L.length) :
    Calls Tryz.prog 34 #[.pointer (some ⟨P, 0, none⟩), .agg #[.int .i64 K, .slice none 0 0, .int .i64 0, .string ⟨#[]⟩, .int .i64 (a : Int)]] w fun en w' => ∃ u R', Does o (fun s m => needName s fun nm at_ s0 => need eqs s0 fun s1 => needEx m d s1 fun k s2 => need semi s2 fun s3 => some (lay (En K [k] 0 nm (at_ : Int)) s3)) u ∧ Came B g L w R d u en w' R' ∧ ∀ n m, Lim o n m → Lim (toO u) (n + 1) m := by
  obtain ⟨W, hW⟩ : ∃ W, W = w.alloc (.cells #[.int .i64 K, .slice none 0 0, .int .i64 0, .string ⟨#[]⟩, .int .i64 (a : Int)] 59) := ⟨_, rfl⟩
  obtain ⟨N, hN⟩ : ∃ N, N = w.heap.size := ⟨_, rfl⟩
  obtain ⟨w0, hw0⟩ : ∃ w0, w0 = w := ⟨_, rfl⟩
  obtain ⟨R0, hR0⟩ : ∃ R0, R0 = R := ⟨_, rfl⟩
  have HR : Hid (Run B g P T L w0 R0 d W R o N K (.slice none 0 0) [] 0 ⟨#[]⟩ (a : Int)) := by rw [hW, hN, hw0, hR0]; exact (Pre.start H hP).node K 0 ⟨#[]⟩ a
  have HW0 := hidden hw0
  have HR0 := hidden hR0
  clear hw0 hR0
  have b0 := HR.out.n0
  have HDD := hidden hd
  have HL := hidden hl
  clear H hP hd hl
  go_enter Tryz.func34, Tryz.ntmps34
  rw [veil 1]
  go_wp2_with fail
  rw [← hW, ← hN]
  clear hW hN
  refine wp_veil ?_
  go_wp2_with fail
  refine (pnamed_any HR.out.any HR.out.par K).mono ?_
  rintro en w1 ⟨ta, rfl, hta, ha, hf⟩
  replace HR := hidden (HR.out.step ha hf rfl)
  have HTA := hidden hta
  obtain ⟨X, hX⟩ : ∃ X, X = nmO o := ⟨_, rfl⟩
  rw [← hX]
  have HX := hidden hX
  clear ha hf hta hX b0
  go_wp2_with fail
  refine (assigned_any HR.out.toPre (fun s hs => by cases o with | error f => cases hs | ok s => exact HDD.out s rfl) (Lim.name_le HL.out) (by simp)).mono ?_
  rintro en w5 ⟨u2, R5, hd2, hc2, hl2⟩
  obtain rfl := hc2.en
  have HD2 := hidden hd2
  have HC2 := hidden hc2
  have HL2 := hidden hl2
  clear hd2 hc2 hl2
  go_wp2_with fail
  go_ret
  have hw0 := HW0.out
  have hR0 := HR0.out
  subst hw0 hR0
  exact ⟨u2, R5, Does.name (G := fun nm at_ s0 m => need eqs s0 fun s1 => needEx m d s1 fun k s2 => need semi s2 fun s3 => some (lay (En K [k] 0 nm (at_ : Int)) s3)) HTA.out (by rw [← HX.out]; exact HD2.out), HC2.out, fun n m h => HL2.out n m (Lim.name_le (h.mono (by omega) (by omega)))⟩
set_option maxRecDepth 100000 in
theorem repeat_any {a M : Nat} (hB : CBlock B g P T L M) (H : Any B g L w R d o) (hP : Par w g P T) (hd : d ≤ 200) (hl : Lim o L.length M) :
    Calls Tryz.prog 36 #[.pointer (some ⟨P, 0, none⟩), .agg #[.int .i64 K, .slice none 0 0, .int .i64 0, .string ⟨#[]⟩, .int .i64 (a : Int)]] w fun en w' => ∃ u R', Does o (fun s m => needEx m d s fun k s1 => Out.go (prd m .block d s1) fun b s2 => some (lay (En K [k, hd1 b] 0 ⟨#[]⟩ (a : Int)) s2)) u ∧ Came B g L w R d u en w' R' ∧ ∀ n m, Lim o n m → Lim (toO u) (n + 1) m := by
  obtain ⟨W, hW⟩ : ∃ W, W = w.alloc (.cells #[.int .i64 K, .slice none 0 0, .int .i64 0, .string ⟨#[]⟩, .int .i64 (a : Int)] 59) := ⟨_, rfl⟩
  obtain ⟨N, hN⟩ : ∃ N, N = w.heap.size := ⟨_, rfl⟩
  obtain ⟨w0, hw0⟩ : ∃ w0, w0 = w := ⟨_, rfl⟩
  obtain ⟨R0, hR0⟩ : ∃ R0, R0 = R := ⟨_, rfl⟩
  have HR : Hid (Run B g P T L w0 R0 d W R o N K (.slice none 0 0) [] 0 ⟨#[]⟩ (a : Int)) := by rw [hW, hN, hw0, hR0]; exact (Pre.start H hP).node K 0 ⟨#[]⟩ a
  have HW0 := hidden hw0
  have HR0 := hidden hR0
  clear hw0 hR0
  have HDD := hidden hd
  have HL := hidden hl
  have HBL := hidden hB
  clear H hP hd hl hB
  have HLL : Hid (Lim o L.length L.length) := HL.out.self
  go_enter Tryz.func36, Tryz.ntmps36
  go_wp2_with fail
  rw [← hW, ← hN]
  clear hW hN
  have HRD := hidden (HR.out.below (below_drew W))
  have b1 := HR.out.n1
  have hp := HR.out.par.c0
  go_cut [] (fun wx => Hid (Pushed B g P T L w0 R0 d o (fun s n => rd n (.chain 0) d s) N K [] 0 ⟨#[]⟩ (a : Int) wx))
  case first =>
    go_region_law (first
      | (go_simp; go_at_call 65; refine ((any_expr HRD.out.any (fun s hs => HDD.out))).mono ?_; rintro en w2 ⟨u, R2, hdo, hc, hli⟩; obtain rfl := hc.en; have HR2 := hidden (HRD.out.step hc.any hc.fr hc.z); have HDO := hidden hdo; have HLI := hidden hli; obtain ⟨k, hk⟩ : ∃ k, k = kidO u := ⟨_, rfl⟩; rw [← hk]; have HK := hidden hk; clear hdo hc hli hk; have c1 := HR2.out.n1; have c2 := (HR2.out.below ((Below.refl _ _).alloc (Nat.le_refl _) (.cells #[.int .i64 k] 3))).n1)
      | (refine step_kid rfl (.tmp 6) (.tmp 12) rfl w0.heap.size w2 (.slice none 0 0) [] k (by rfl) (by rfl) HR2.out.now HR2.out.fr.size (by simp) ?_; intro v3 w3 h3 hg3 hw3; obtain ⟨va, vc, hv3⟩ := own_shape5 h3; obtain ⟨R3, hr3, hc3, hf3⟩ := HR2.out.push h3 hg3 hw3; have HR3 := hidden hr3; clear hr3 h3 hg3 hw3; rw [List.length_append, List.length_singleton] at hv3; subst hv3))
    all_goals
      go_wp2_with fail
      go_meet
      exact ⟨u, R3, _, HDO.out, HLI.out, by rw [← HK.out]; exact HR3.out⟩
  case rest =>
    obtain ⟨u1, R1, v1, hdo, hli, hr⟩ := hcut.out
    obtain ⟨W1, hwc⟩ : ∃ W1, W1 = wc := ⟨_, rfl⟩
    rw [← hwc] at hr ⊢
    have HX := hidden hr
    have HD1 := hidden hdo
    have HL1 := hidden hli
    clear hcut hdo hli hr hwc hp b1 HRD
    go_wp2_with fail
    have HRD := hidden (HX.out.below (below_drew W1))
    have b1 := HX.out.n1
    have hp := HX.out.par.c0
    go_cut [] (fun wx => Hid (Pushed B g P T L w0 R0 d (toO u1) (fun s n => prd n .block d s) N K ([] ++ [kidO u1]) 0 ⟨#[]⟩ (a : Int) wx))
    case first =>
      go_region_law (first
        | (go_simp; go_at_call 66; refine ((HBL.out.use HRD.out.any HRD.out.par HDD.out (HL1.out _ _ HL.out))).mono ?_; rintro en w2 ⟨u, R2, hdo, hc, hli⟩; obtain rfl := hc.en; have HR2 := hidden (HRD.out.step hc.any hc.fr hc.z); have HDO := hidden hdo; have HLI := hidden hli; obtain ⟨k, hk⟩ : ∃ k, k = kidO u := ⟨_, rfl⟩; rw [← hk]; have HK := hidden hk; clear hdo hc hli hk; have c1 := HR2.out.n1; have c2 := (HR2.out.below ((Below.refl _ _).alloc (Nat.le_refl _) (.cells #[.int .i64 k] 3))).n1)
        | (refine step_kid rfl (.tmp 16) (.tmp 19) rfl w0.heap.size w2 v1 ([] ++ [kidO u1]) k (by rfl) (by rfl) HR2.out.now HR2.out.fr.size (by simp) ?_; intro v3 w3 h3 hg3 hw3; obtain ⟨va, vc, hv3⟩ := own_shape5 h3; obtain ⟨R3, hr3, hc3, hf3⟩ := HR2.out.push h3 hg3 hw3; have HR3 := hidden hr3; clear hr3 h3 hg3 hw3; rw [List.length_append, List.length_singleton] at hv3; subst hv3))
      all_goals
        go_wp2_with fail
        go_meet
        exact ⟨u, R3, _, HDO.out, HLI.out, by rw [← HK.out]; exact HR3.out⟩
    case rest =>
      obtain ⟨u2, R2, v2, hdo, hli, hr⟩ := hcut.out
      obtain ⟨W2, hwc⟩ : ∃ W2, W2 = wc := ⟨_, rfl⟩
      rw [← hwc] at hr ⊢
      have HY := hidden hr
      have HD2 := hidden hdo
      have HL3 := hidden hli
      clear hcut hdo hli hr hwc hp b1 HRD
      have hp := HY.out.par.c0
      have b0 := HY.out.n0
      have b1 := HY.out.n1
      have b2 := HY.out.n2
      have b3 := HY.out.n3
      have b4 := HY.out.n4
      go_wp2_with fail
      go_still_tail 5, (by kernel_rfl)
      change wpList _ _ _ _ _ W2.drew
      have HZ := hidden (HY.out.below (below_drew W2))
      go_wp2_with fail
      refine (any_put _ _ _ _ _ _ HZ.out.any HZ.out.now (HL3.out _ _ (HL1.out _ _ HLL.out)) (by simp)).mono ?_
      rintro en wz ⟨uz, Rz, hdo, hc, hli⟩
      obtain rfl := hc.en
      have HCz := hidden (HZ.out.came hc)
      have HDz := hidden hdo
      have HLz := hidden hli
      clear hdo hc hli
      go_wp2_with fail
      go_ret
      have hw0 := HW0.out
      have hR0 := HR0.out
      subst hw0 hR0
      exact ⟨uz, _, Does.ex (G := fun k s1 m => Out.go (prd m .block d s1) fun b s2 => some (lay (En K [k, hd1 b] 0 ⟨#[]⟩ (a : Int)) s2)) HD1.out (Does.go (G := fun b s2 m => some (lay (En K [kidO u1, b] 0 ⟨#[]⟩ (a : Int)) s2)) HD2.out HDz.out), HCz.out, fun n m h => HLz.out n m (HL3.out _ _ (HL1.out _ _ h))⟩
end Go.Proofs.YtagacfcpepoaoaaGreatDoor
