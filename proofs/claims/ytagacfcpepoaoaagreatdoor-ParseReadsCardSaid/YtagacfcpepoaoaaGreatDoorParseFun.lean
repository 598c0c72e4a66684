/- The walk through a function. -/
import Derived.Test.YtagacfcpepoaoaaGreatDoorParseBlock
import Derived.Test.YtagacfcpepoaoaaGreatDoorParsePar
namespace Go.Proofs.YtagacfcpepoaoaaGreatDoor
open Go.RowKit
set_option linter.unusedVariables false

variable {B g P T N : Nat} {L : List Tk} {w0 w w' : World} {R0 R R' : Bx} {d : Nat} {o : Except Flt PS} {v : Value} {acc : List Int} {K n : Int} {S : ByteArray}
/-- the parameters become the node's -/
theorem Run.params {a : Int} {l : List Int} {v' : Value} {o' : Except Flt PS} (H : Run B g P T L w0 R0 d w R o N K v acc n S a) (hp : Pre B g P T L w R d w' R' o' v' l) : Run B g P T L w0 R0 d (w'.setCell ⟨N, 1, none⟩ v') R' o' N K v' l n S a ∧ w'.cell? ⟨N, 1, none⟩ = some v ∧ w'.frozen? ⟨N, 1, none⟩ = false := by
  have hbox := H.any.held hp.fr H.box (by decide) (by decide) H.off
  have hoff : R'.vn.ownBlock ≠ some N := fun e => by
    rcases hp.fr.vn N e with h | h
    · exact H.off h
    · have := H.box.lt; omega
  have h1 : Pre B g P T L w0 R0 d w' R' o' v' l := ⟨hp.any, H.fr.trans hp.fr, fun k hk => hp.z0 k (H.z0 k hk), hp.zv, own_base hp.now H.fr.size, hp.par, H.base⟩
  exact ⟨h1.set_v hbox hoff H.new, hbox.at_ rfl, hbox.frozen 1⟩
def FFun (d : Nat) : PS → Nat → Option Out := fun s n => need wFn s fun s1 => prd n .func d s1
theorem Does.func {u : Out} (h : Does o (fun s n => needName s fun nm at_ s1 => Go.Proofs.YtagacfcpepoaoaaGreatDoor.need lp s1 fun s2 => Out.go (if s2.is rp then some (.ok ([], s2.next)) else prd n (.params []) d s2) fun ps s3 => needKind s3 fun k s4 => Out.go (prd n .block d s4) fun b s5 => some (lay (En 25 (ps ++ [hd1 b]) k nm at_) s5)) u) : Does o (fun s n => prd n .func d s) u := by
  cases o with
  | error f => exact h
  | ok s => exact (PReads.func h).ev
theorem params_left {u : Out} (h : Does o (fun s2 n => if s2.is rp then some (.ok ([], s2.next)) else prd n (.params []) d s2) u) (n m : Nat) (hl : Lim o n m) : Lim (toO u) n m := by
  cases o with
  | error f => rw [show u = _ from h]; exact Lim.err
  | ok s =>
    cases hb : s.is rp with
    | true =>
      obtain ⟨n0, hn⟩ := h
      have h1 : some (Except.ok ([], s.next)) = some u := (if_pos hb).symm.trans (hn n0 (Nat.le_refl _))
      injection h1 with h1
      subst h1
      exact (hl.next_le hb).mono (by omega) (by omega)
    | false =>
      refine Does.left (m := .params []) (d := d) (o := .ok s) (fun acc e => by cases e) ?_ n m hl
      obtain ⟨n0, hn⟩ := h
      refine ⟨n0, fun k hk => ?_⟩
      exact (if_neg (by rw [hb]; decide)).symm.trans (hn k hk)
theorem fun_fin {u : Out} {en : Ending} {R1 : Bx} (hoo : ∀ s, o = .ok s → 1 ≤ s.r.length) (hl : ∀ n m, Lim o n m → Lim (toO u) (n - 1 + 1) (m - 1)) (h : Does o (FFun d) u) (hc : Came B g L w R d u en w' R1) : ∃ u R', Does o (FFun d) u ∧ Came B g L w R d u en w' R' ∧ ∀ n m, Lim o n m → Lim (toO u) n m := by
  refine ⟨u, R1, h, hc, fun n m hm => ?_⟩
  cases o with
  | error f => rw [show u = _ from h]; exact Lim.err
  | ok s =>
    have h1 := hoo s rfl
    have h2 := hm s rfl
    exact (hl n m hm).mono (by omega) (by omega)
set_option maxRecDepth 100000 in
theorem function_any (H : Any B g L w R d o) (hP : Par w g P T) (hd : d ≤ 200) (hl : Lim o L.length L.length) :
    Calls Tryz.prog 43 #[.pointer (some ⟨P, 0, none⟩)] w fun en w' => ∃ u R', Does o (FFun d) u ∧ Came B g L w R d u en w' R' ∧ ∀ n m, Lim o n m → Lim (toO u) n m := by
  obtain ⟨w0, hw0⟩ : ∃ w0, w0 = w := ⟨_, rfl⟩
  obtain ⟨R0, hR0⟩ : ∃ R0, R0 = R := ⟨_, rfl⟩
  have HR : Hid (Pre B g P T L w0 R0 d w R o (.slice none 0 0) []) := by rw [hw0, hR0]; exact Pre.start H hP
  have HW0 := hidden hw0
  have HR0 := hidden hR0
  have HL := hidden hl
  have HDD := hidden hd
  have hp := HR.out.par.c0
  clear H hP hl hd hw0 hR0
  have HPOS : Hid (∀ s, o = .ok s → 1 ≤ s.r.length) := fun s hs => is_pos HR.out.any hs
  go_enter Tryz.func43, Tryz.ntmps43
  rw [veil 3]
  go_wp2_with fail
  refine (any_want wFn HR.out.any).mono ?_
  rintro en w1 ⟨⟨x, rfl⟩, ha, hf⟩
  replace HR := hidden (HR.out.step ha hf rfl)
  clear ha hf hp
  obtain ⟨oa, hoa⟩ : ∃ oa, oa = needO wFn o := ⟨_, rfl⟩
  rw [← hoa] at HR
  have HOA := hidden hoa
  clear hoa
  go_wp2_with fail
  refine (pnamed_any HR.out.any HR.out.par 25).mono ?_
  rintro en w2 ⟨ta, rfl, hta, ha, hf⟩
  replace HR := hidden (HR.out.step ha hf rfl)
  have HTA := hidden hta
  obtain ⟨X, hX⟩ : ∃ X, X = nmO oa := ⟨_, rfl⟩
  rw [← hX]
  have HX := hidden hX
  clear ha hf hta hX
  obtain ⟨W, hW⟩ : ∃ W, W = w2.alloc (.cells #[.int .i64 25, .slice none 0 0, .int .i64 0, .string X, .int .i64 (ta : Int)] 59) := ⟨_, rfl⟩
  obtain ⟨N, hN⟩ : ∃ N, N = w2.heap.size := ⟨_, rfl⟩
  have HQ : Hid (Run B g P T L w0 R0 d W R (nameO oa) N 25 (.slice none 0 0) [] 0 X (ta : Int)) := by rw [hW, hN]; exact HR.out.node 25 0 X ta
  have HLA : Hid (∀ n m, Lim o n m → Lim oa (n - 1) (m - 1)) := fun n m h => by rw [HOA.out]; exact Lim.need_less h
  have HLB : Hid (∀ n m, Lim o n m → Lim (nameO oa) (n - 1) (m - 1)) := fun n m h => Lim.name_le (HLA.out n m h)
  clear HR
  go_wp2_with fail
  rw [← hW, ← hN]
  clear hW hN
  refine wp_veil ?_
  go_wp2_with fail
  refine (params_any HQ.out.any HQ.out.par ((HLB.out _ _ HL.out).mono (by omega) (by omega))).mono ?_
  rintro en w3 ⟨u1, R1, v1, l1, rfl, hdo, hpre, hlen, hlp⟩
  obtain ⟨sa, sc, hv1⟩ := own_shape5 hpre.now
  subst hv1
  obtain ⟨hq, hc1, hf1⟩ := HQ.out.params hpre
  obtain ⟨W3, hW3⟩ : ∃ W3, W3 = w3.setCell ⟨N, 1, none⟩ (.slice sa l1.length sc) := ⟨_, rfl⟩
  rw [← hW3] at hq
  have HV := hidden hq
  have HDP := hidden hdo
  have HLEN := hidden hlen
  have HLP := hidden hlp
  have HLC : Hid (∀ n m, Lim o n m → Lim (toO u1) (n - 1) (m - 1)) := fun n m h => params_left HDP.out _ _ (Lim.need_le (HLB.out n m h))
  clear hdo hpre hlen hlp hq HQ
  go_wp2_with fail
  rw [← hW3]
  clear hW3 hc1 hf1
  refine (kind_any HV.out.any HV.out.par).mono ?_
  rintro en w5 ⟨rfl, ha, hf⟩
  replace HV := hidden (HV.out.step ha hf rfl)
  obtain ⟨kd, hkd⟩ : ∃ kd : Nat, kd = kdO (toO u1) := ⟨_, rfl⟩
  rw [← hkd]
  have HKD := hidden hkd
  clear ha hf hkd
  have b2 := HV.out.n2
  have g2 := HV.out.box.frozen 2
  replace HV := hidden (HV.out.set_n (kd : Int))
  obtain ⟨w6, hw6⟩ : ∃ w6, w6 = w5.setCell ⟨N, 2, none⟩ (.int .i64 (kd : Int)) := ⟨_, rfl⟩
  rw [← hw6] at HV
  have HLD : Hid (∀ n m, Lim o n m → Lim (kindO (toO u1)) (n - 1) (m - 1)) := fun n m h => Lim.kind_le (HLC.out n m h)
  go_wp2_with fail
  rw [← hw6]
  clear hw6 b2 g2
  have HRD := hidden (HV.out.below (below_drew w6))
  have b1 := HV.out.n1
  have hp := HV.out.par.c0
  go_cut [] (fun wx => Hid (Pushed B g P T L w0 R0 d (kindO (toO u1)) (fun s n => prd n .block d s) N 25 l1 (kd : Int) X (ta : Int) wx))
  case first =>
    go_region_law (first
      | (go_simp; go_at_call 66; refine ((block_any HRD.out.any HRD.out.par HDD.out ((HLD.out _ _ HL.out).mono (by omega) (by omega)))).mono ?_; rintro en w2 ⟨u, R2, hdo, hc, hli⟩; obtain rfl := hc.en; have HR2 := hidden (HRD.out.step hc.any hc.fr hc.z); have HDO := hidden hdo; have HLI := hidden hli; obtain ⟨k, hk⟩ : ∃ k, k = kidO u := ⟨_, rfl⟩; rw [← hk]; have HK := hidden hk; clear hdo hc hli hk; have c1 := HR2.out.n1; have c2 := (HR2.out.below ((Below.refl _ _).alloc (Nat.le_refl _) (.cells #[.int .i64 k] 3))).n1)
      | (refine step_kid rfl (.tmp 18) (.tmp 21) rfl w0.heap.size w2 (.slice sa l1.length sc) l1 k (by rfl) (by rfl) HR2.out.now HR2.out.fr.size (by have := HLEN.out; omega) ?_; intro v3 w3 h3 hg3 hw3; obtain ⟨va, vc, hv3⟩ := own_shape5 h3; obtain ⟨R3, hr3, hc3, hf3⟩ := HR2.out.push h3 hg3 hw3; have HR3 := hidden hr3; clear hr3 h3 hg3 hw3; rw [List.length_append, List.length_singleton] at hv3; subst hv3))
    all_goals
      go_wp2_with fail
      go_meet
      exact ⟨u, R3, _, HDO.out, HLI.out, by rw [← HK.out]; exact HR3.out⟩
  case rest =>
    obtain ⟨u2, R2, v2, hdo, hli, hr⟩ := hcut.out
    obtain ⟨W7, hwc⟩ : ∃ W7, W7 = wc := ⟨_, rfl⟩
    rw [← hwc] at hr ⊢
    have HY := hidden hr
    have HD2 := hidden hdo
    have HL3 := hidden hli
    clear hcut hdo hli hr hwc hp b1 HRD
    have hp := HY.out.par.c0
    have b0 := HY.out.n0
    have b1 := HY.out.n1
    have b2 := HY.out.n2
    have b3 := HY.out.n3
    have b4 := HY.out.n4
    go_wp2_with fail
    go_still_tail 5, (by kernel_rfl)
    change wpList _ _ _ _ _ W7.drew
    have HZ := hidden (HY.out.below (below_drew W7))
    go_wp2_with fail
    refine (any_put _ _ _ _ _ _ HZ.out.any HZ.out.now ((HL3.out _ _ (HLD.out _ _ HL.out)).self.mono (by omega) (by omega)) (by have := HLEN.out; simp; omega)).mono ?_
    rintro en wz ⟨uz, Rz, hdo, hc, hli⟩
    obtain rfl := hc.en
    have HCz := hidden (HZ.out.came hc)
    have HDz := hidden hdo
    have HLz := hidden hli
    clear hdo hc hli
    go_wp2_with fail
    go_ret
    have HLZ : Hid (∀ n m, Lim o n m → Lim (toO uz) (n - 1 + 1) (m - 1)) := fun n m h => HLz.out _ _ (HL3.out _ _ (HLD.out _ _ h))
    have hw0 := HW0.out
    have hR0 := HR0.out
    subst hw0 hR0
    exact fun_fin HPOS.out HLZ.out (Does.need (b := wFn) (G := fun s1 n => prd n .func d s1) (by rw [← HOA.out]; exact Does.func (Does.name (G := fun nm at_ s1 n => need lp s1 fun s2 => Out.go (if s2.is rp then some (.ok ([], s2.next)) else prd n (.params []) d s2) fun ps s3 => needKind s3 fun k s4 => Out.go (prd n .block d s4) fun b s5 => some (lay (En 25 (ps ++ [hd1 b]) k nm at_) s5)) (fun s hs => HTA.out s hs) (by rw [← HX.out]; exact Does.need (b := lp) (G := fun s2 n => Out.go (if s2.is rp then some (.ok ([], s2.next)) else prd n (.params []) d s2) fun ps s3 => needKind s3 fun k s4 => Out.go (prd n .block d s4) fun b s5 => some (lay (En 25 (ps ++ [hd1 b]) k X ta) s5)) (Does.go' (q := l1) (G := fun ps s3 n => needKind s3 fun k s4 => Out.go (prd n .block d s4) fun b s5 => some (lay (En 25 (ps ++ [hd1 b]) k X ta) s5)) HDP.out HLP.out (Does.kind (G := fun k s4 n => Out.go (prd n .block d s4) fun b s5 => some (lay (En 25 (l1 ++ [hd1 b]) k X ta) s5)) (by rw [← HKD.out]; exact Does.go (G := fun b s5 n => some (lay (En 25 (l1 ++ [b]) kd X ta) s5)) HD2.out HDz.out))))))) HCz.out
end Go.Proofs.YtagacfcpepoaoaaGreatDoor
