/- The reference: Declare. -/
import Derived.Test.YtncbkedfodaabaaScopeRefMem
import Derived.Test.YtncbkedfodaabaaScopeDeclare3
import Derived.Deep.QuietTactic
import Derived.BigQuiet
namespace Go.Proofs.Ytncbkedfodaabaa
open Go.RowKit
set_option linter.unusedVariables false

set_option maxRecDepth 100000 in
set_option maxHeartbeats 8000000 in
theorem rdeclare_low {w : World} {N : Nat → Prop} {aL aK : Option Addr} {cL cK : Nat} {R : List (List Dc)} {ks : List Nat} (H : IsX w N aL cL aK cK R ks) (s : ByteArray) (k : Int) (hl : (flat R).length ≤ 1000) (hR : R.length ≤ 1000) (hks : ks.length ≤ 1000) (h1 : k < 1) :
    Calls Try.prog 12 #[xval aL cL aK cK R ks, .string s, .int .i64 k] w fun e w' => ∃ aL' cL' aK' cK', e = .returned (.tuple #[xval aL' cL' aK' cK' R ks, .bool false]) ∧ IsX w' (fun g => N g ∨ w.heap.size ≤ g) aL' cL' aK' cK' R ks ∧ Below w.heap.size w w' := by
  have h1' : decide (k < 1) = true := by simp [h1]
  clear h1
  obtain ⟨S, hS⟩ : ∃ S, S = w.heap.size := ⟨_, rfl⟩
  obtain ⟨A1, hA1⟩ : ∃ A, A = w.heap.size + 1 := ⟨_, rfl⟩
  obtain ⟨n, hn⟩ : ∃ n, n = (flat R).length := ⟨_, rfl⟩
  obtain ⟨kk, hkk⟩ : ∃ x, x = ks.length := ⟨_, rfl⟩
  obtain ⟨D, hD⟩ : ∃ x, x = R.length := ⟨_, rfl⟩
  obtain ⟨w1, hw1⟩ : ∃ w1, w1 = w.alloc (.cells #[.slice aL n cL, .slice aK kk cK, .int .i64 (D : Int)] 29) := ⟨_, rfl⟩
  obtain ⟨w2, hw2⟩ : ∃ w2, w2 = w1.alloc (.cells #[.slice none 0 0, .slice none 0 0, .int .i64 0] 29) := ⟨_, rfl⟩
  have hb2 : Below w.heap.size w w2 := by rw [hw2, hw1]; exact ((Below.refl _ w).alloc (Nat.le_refl _) _).alloc (by simp) _
  have hfind := rfind_any (H.below hb2) s hl
  unfold xval at hfind
  rw [← hn, ← hkk, ← hD] at hfind
  generalize ix (flat R) s n = at0 at hfind
  have hg0 : Held w2 S 29 #[.slice aL n cL, .slice aK kk cK, .int .i64 (D : Int)] := by rw [hw2, hw1, hS]; exact (Held.new _ _ _).alloc _
  have hg1 : Held w2 A1 29 #[.slice none 0 0, .slice none 0 0, .int .i64 0] := by
    have e1 : w1.heap.size = A1 := by rw [hw1, World.size_alloc, hA1]
    rw [hw2, ← e1]; exact Held.new _ _ _
  have hnb : n ≤ 1000 := by omega
  have hkb : kk ≤ 1000 := by omega
  have hDb : D ≤ 1000 := by omega
  have HH := hidden H
  have HS := hidden hS
  have HA := hidden hA1
  have HN := hidden hn
  have HKK := hidden hkk
  have HD := hidden hD
  have HW1 := hidden hw1
  have HW2 := hidden hw2
  have HB2 := hidden hb2
  have HG0 := hidden hg0
  have HG1 := hidden hg1
  have hxv : xval aL cL aK cK R ks = .agg #[.slice aL n cL, .slice aK kk cK, .int .i64 (D : Int)] := by unfold xval; rw [hn, hkk, hD]
  rw [hxv]
  have HXV := hidden hxv
  clear hxv hS hA1 hn hkk hD hw1 hw2 hb2 hg0 hg1 H hl hR hks
  go_enter Try.func12, Try.ntmps12
  go_wp2_with fail
  rw [show (w.alloc (.cells #[.slice aL n cL, .slice aK kk cK, .int .i64 (D : Int)] 29)).alloc (.cells #[.slice none 0 0, .slice none 0 0, .int .i64 0] 29) = w2 by rw [HW2.out, HW1.out], ← HA.out, ← HS.out]
  go_wp2_with (go_at_call 14; with_reducible refine hfind.mono ?_; rintro e w3 ⟨rfl, hb3⟩)
  clear hfind
  have HB3 := hidden (HB2.out.trans (hb3.mono HB2.out.size))
  have HG0' := hidden (HG0.out.since hb3)
  have HG1' := hidden (HG1.out.since hb3)
  have HX3 := hidden (HH.out.below HB3.out)
  clear hb3
  have x0 : w3.cell? ⟨S, 0, none⟩ = some (.slice aL n cL) := HG0'.out.at_ rfl
  have x1 : w3.cell? ⟨S, 1, none⟩ = some (.slice aK kk cK) := HG0'.out.at_ rfl
  have x2 : w3.cell? ⟨S, 2, none⟩ = some (.int .i64 (D : Int)) := HG0'.out.at_ rfl
  have hSA : S ≠ A1 := by have h1 := HA.out; have h2 := HS.out; omega
  have hAS := hSA.symm
  have z1 : w3.cell? ⟨A1, 0, none⟩ = some (.slice none 0 0) := HG1'.out.at_ rfl
  have z2 : w3.cell? ⟨A1, 1, none⟩ = some (.slice none 0 0) := HG1'.out.at_ rfl
  have z3 : w3.cell? ⟨A1, 2, none⟩ = some (.int .i64 0) := HG1'.out.at_ rfl
  have f1 : w3.frozen? ⟨A1, 0, none⟩ = false := HG1'.out.frozen 0
  have f2 : w3.frozen? ⟨A1, 1, none⟩ = false := HG1'.out.frozen 1
  have f3 : w3.frozen? ⟨A1, 2, none⟩ = false := HG1'.out.frozen 2
  go_quiet (fail)
  go_wp2_with fail
  obtain ⟨wz, hwz⟩ : ∃ wz, wz = (((w3.drewN nq).setCell ⟨A1, 0, none⟩ (.slice aL n cL)).setCell ⟨A1, 1, none⟩ (.slice aK kk cK)).setCell ⟨A1, 2, none⟩ (.int .i64 (D : Int)) := ⟨_, rfl⟩
  have hh : Held wz A1 29 #[.slice aL n cL, .slice aK kk cK, .int .i64 (D : Int)] := by rw [hwz]; exact (((HG1'.out.drewN nq).set 0 _).set 1 _).set 2 _
  have hgr : (w3.drewN nq).grownBy wz (some A1) := by rw [hwz]; exact grown_three (grown_setCell _ _ _ _) (grown_setCell _ _ _ _) (grown_setCell _ _ _ _)
  rw [← hwz]
  clear hwz
  have v0 : wz.cell? ⟨A1, 0, none⟩ = some (.slice aL n cL) := hh.at_ rfl
  have v1 : wz.cell? ⟨A1, 1, none⟩ = some (.slice aK kk cK) := hh.at_ rfl
  have v2 : wz.cell? ⟨A1, 2, none⟩ = some (.int .i64 (D : Int)) := hh.at_ rfl
  have hb3 : Below w.heap.size w (w3.drewN nq) := HB3.out.trans (below_drewN _ _ _)
  have hbf : Below w.heap.size w wz := hb3.trans ⟨hgr.os, hgr.tape, hgr.output, hgr.size, fun j hj => hgr.block j (Nat.lt_of_lt_of_le hj hb3.size) (fun e => by have := HA.out; injection e with e; omega)⟩
  exact bodyPost_ret (v := .tuple #[.agg #[.slice aL n cL, .slice aK kk cK, .int .i64 (D : Int)], .bool false]) (by simp [results, Try.results12, go_sem, v0, v1, v2]) rfl ⟨aL, cL, aK, cK, by rw [HXV.out], (HH.out.below hbf).mono (fun g _ h => .inl h), hbf⟩
set_option maxRecDepth 100000 in
set_option maxHeartbeats 8000000 in
theorem rdeclare_high {w : World} {N : Nat → Prop} {aL aK : Option Addr} {cL cK : Nat} {R : List (List Dc)} {ks : List Nat} (H : IsX w N aL cL aK cK R ks) (s : ByteArray) (k : Int) (hl : (flat R).length ≤ 1000) (hR : R.length ≤ 1000) (hks : ks.length ≤ 1000) (h1 : ¬ k < 1) (h3 : 3 < k) :
    Calls Try.prog 12 #[xval aL cL aK cK R ks, .string s, .int .i64 k] w fun e w' => ∃ aL' cL' aK' cK', e = .returned (.tuple #[xval aL' cL' aK' cK' R ks, .bool false]) ∧ IsX w' (fun g => N g ∨ w.heap.size ≤ g) aL' cL' aK' cK' R ks ∧ Below w.heap.size w w' := by
  have h1' : decide (k < 1) = false := by simp; omega
  have h3' : decide (3 < k) = true := by simp [h3]
  clear h1 h3
  obtain ⟨S, hS⟩ : ∃ S, S = w.heap.size := ⟨_, rfl⟩
  obtain ⟨A1, hA1⟩ : ∃ A, A = w.heap.size + 1 := ⟨_, rfl⟩
  obtain ⟨n, hn⟩ : ∃ n, n = (flat R).length := ⟨_, rfl⟩
  obtain ⟨kk, hkk⟩ : ∃ x, x = ks.length := ⟨_, rfl⟩
  obtain ⟨D, hD⟩ : ∃ x, x = R.length := ⟨_, rfl⟩
  obtain ⟨w1, hw1⟩ : ∃ w1, w1 = w.alloc (.cells #[.slice aL n cL, .slice aK kk cK, .int .i64 (D : Int)] 29) := ⟨_, rfl⟩
  obtain ⟨w2, hw2⟩ : ∃ w2, w2 = w1.alloc (.cells #[.slice none 0 0, .slice none 0 0, .int .i64 0] 29) := ⟨_, rfl⟩
  have hb2 : Below w.heap.size w w2 := by rw [hw2, hw1]; exact ((Below.refl _ w).alloc (Nat.le_refl _) _).alloc (by simp) _
  have hfind := rfind_any (H.below hb2) s hl
  unfold xval at hfind
  rw [← hn, ← hkk, ← hD] at hfind
  generalize ix (flat R) s n = at0 at hfind
  have hg0 : Held w2 S 29 #[.slice aL n cL, .slice aK kk cK, .int .i64 (D : Int)] := by rw [hw2, hw1, hS]; exact (Held.new _ _ _).alloc _
  have hg1 : Held w2 A1 29 #[.slice none 0 0, .slice none 0 0, .int .i64 0] := by
    have e1 : w1.heap.size = A1 := by rw [hw1, World.size_alloc, hA1]
    rw [hw2, ← e1]; exact Held.new _ _ _
  have hnb : n ≤ 1000 := by omega
  have hkb : kk ≤ 1000 := by omega
  have hDb : D ≤ 1000 := by omega
  have HH := hidden H
  have HS := hidden hS
  have HA := hidden hA1
  have HN := hidden hn
  have HKK := hidden hkk
  have HD := hidden hD
  have HW1 := hidden hw1
  have HW2 := hidden hw2
  have HB2 := hidden hb2
  have HG0 := hidden hg0
  have HG1 := hidden hg1
  have hxv : xval aL cL aK cK R ks = .agg #[.slice aL n cL, .slice aK kk cK, .int .i64 (D : Int)] := by unfold xval; rw [hn, hkk, hD]
  rw [hxv]
  have HXV := hidden hxv
  clear hxv hS hA1 hn hkk hD hw1 hw2 hb2 hg0 hg1 H hl hR hks
  go_enter Try.func12, Try.ntmps12
  go_wp2_with fail
  rw [show (w.alloc (.cells #[.slice aL n cL, .slice aK kk cK, .int .i64 (D : Int)] 29)).alloc (.cells #[.slice none 0 0, .slice none 0 0, .int .i64 0] 29) = w2 by rw [HW2.out, HW1.out], ← HA.out, ← HS.out]
  go_wp2_with (go_at_call 14; with_reducible refine hfind.mono ?_; rintro e w3 ⟨rfl, hb3⟩)
  clear hfind
  have HB3 := hidden (HB2.out.trans (hb3.mono HB2.out.size))
  have HG0' := hidden (HG0.out.since hb3)
  have HG1' := hidden (HG1.out.since hb3)
  have HX3 := hidden (HH.out.below HB3.out)
  clear hb3
  have x0 : w3.cell? ⟨S, 0, none⟩ = some (.slice aL n cL) := HG0'.out.at_ rfl
  have x1 : w3.cell? ⟨S, 1, none⟩ = some (.slice aK kk cK) := HG0'.out.at_ rfl
  have x2 : w3.cell? ⟨S, 2, none⟩ = some (.int .i64 (D : Int)) := HG0'.out.at_ rfl
  have hSA : S ≠ A1 := by have h1 := HA.out; have h2 := HS.out; omega
  have hAS := hSA.symm
  have z1 : w3.cell? ⟨A1, 0, none⟩ = some (.slice none 0 0) := HG1'.out.at_ rfl
  have z2 : w3.cell? ⟨A1, 1, none⟩ = some (.slice none 0 0) := HG1'.out.at_ rfl
  have z3 : w3.cell? ⟨A1, 2, none⟩ = some (.int .i64 0) := HG1'.out.at_ rfl
  have f1 : w3.frozen? ⟨A1, 0, none⟩ = false := HG1'.out.frozen 0
  have f2 : w3.frozen? ⟨A1, 1, none⟩ = false := HG1'.out.frozen 1
  have f3 : w3.frozen? ⟨A1, 2, none⟩ = false := HG1'.out.frozen 2
  go_quiet (fail)
  go_wp2_with fail
  obtain ⟨wz, hwz⟩ : ∃ wz, wz = (((w3.drewN nq).setCell ⟨A1, 0, none⟩ (.slice aL n cL)).setCell ⟨A1, 1, none⟩ (.slice aK kk cK)).setCell ⟨A1, 2, none⟩ (.int .i64 (D : Int)) := ⟨_, rfl⟩
  have hh : Held wz A1 29 #[.slice aL n cL, .slice aK kk cK, .int .i64 (D : Int)] := by rw [hwz]; exact (((HG1'.out.drewN nq).set 0 _).set 1 _).set 2 _
  have hgr : (w3.drewN nq).grownBy wz (some A1) := by rw [hwz]; exact grown_three (grown_setCell _ _ _ _) (grown_setCell _ _ _ _) (grown_setCell _ _ _ _)
  rw [← hwz]
  clear hwz
  have v0 : wz.cell? ⟨A1, 0, none⟩ = some (.slice aL n cL) := hh.at_ rfl
  have v1 : wz.cell? ⟨A1, 1, none⟩ = some (.slice aK kk cK) := hh.at_ rfl
  have v2 : wz.cell? ⟨A1, 2, none⟩ = some (.int .i64 (D : Int)) := hh.at_ rfl
  have hb3 : Below w.heap.size w (w3.drewN nq) := HB3.out.trans (below_drewN _ _ _)
  have hbf : Below w.heap.size w wz := hb3.trans ⟨hgr.os, hgr.tape, hgr.output, hgr.size, fun j hj => hgr.block j (Nat.lt_of_lt_of_le hj hb3.size) (fun e => by have := HA.out; injection e with e; omega)⟩
  exact bodyPost_ret (v := .tuple #[.agg #[.slice aL n cL, .slice aK kk cK, .int .i64 (D : Int)], .bool false]) (by simp [results, Try.results12, go_sem, v0, v1, v2]) rfl ⟨aL, cL, aK, cK, by rw [HXV.out], (HH.out.below hbf).mono (fun g _ h => .inl h), hbf⟩
set_option maxRecDepth 100000 in
set_option maxHeartbeats 8000000 in
theorem rdeclare_here {w : World} {N : Nat → Prop} {aL aK : Option Addr} {cL cK : Nat} {R : List (List Dc)} {ks : List Nat} (H : IsX w N aL cL aK cK R ks) (s : ByteArray) (k : Int) (hl : (flat R).length ≤ 1000) (hR : R.length ≤ 1000) (hks : ks.length ≤ 1000) (h1 : ¬ k < 1) (h3 : ¬ 3 < k) (j : Nat) (hj : j < (flat R).length) (hix : ix (flat R) s (flat R).length = (j : Int)) (hbk : ((flat R).getD j default).bk = R.length) :
    Calls Try.prog 12 #[xval aL cL aK cK R ks, .string s, .int .i64 k] w fun e w' => ∃ aL' cL' aK' cK', e = .returned (.tuple #[xval aL' cL' aK' cK' R ks, .bool false]) ∧ IsX w' (fun g => N g ∨ w.heap.size ≤ g) aL' cL' aK' cK' R ks ∧ Below w.heap.size w w' := by
  have h1' : decide (k < 1) = false := by simp; omega
  have h3' : decide (3 < k) = false := by simp; omega
  clear h1 h3
  obtain ⟨gL, haL, _, _, _, _, _⟩ := H.vars.va hj
  subst haL
  obtain ⟨S, hS⟩ : ∃ S, S = w.heap.size := ⟨_, rfl⟩
  obtain ⟨A1, hA1⟩ : ∃ A, A = w.heap.size + 1 := ⟨_, rfl⟩
  obtain ⟨n, hn⟩ : ∃ n, n = (flat R).length := ⟨_, rfl⟩
  obtain ⟨kk, hkk⟩ : ∃ x, x = ks.length := ⟨_, rfl⟩
  obtain ⟨D, hD⟩ : ∃ x, x = R.length := ⟨_, rfl⟩
  obtain ⟨w1, hw1⟩ : ∃ w1, w1 = w.alloc (.cells #[.slice (some ⟨gL, 0, none⟩) n cL, .slice aK kk cK, .int .i64 (D : Int)] 29) := ⟨_, rfl⟩
  obtain ⟨w2, hw2⟩ : ∃ w2, w2 = w1.alloc (.cells #[.slice none 0 0, .slice none 0 0, .int .i64 0] 29) := ⟨_, rfl⟩
  have hb2 : Below w.heap.size w w2 := by rw [hw2, hw1]; exact ((Below.refl _ w).alloc (Nat.le_refl _) _).alloc (by simp) _
  have hfind := rfind_any (H.below hb2) s hl
  unfold xval at hfind
  rw [← hn, ← hkk, ← hD] at hfind
  rw [← hn] at hix hj
  rw [hix] at hfind
  clear hix
  rw [← hD] at hbk
  have hg0 : Held w2 S 29 #[.slice (some ⟨gL, 0, none⟩) n cL, .slice aK kk cK, .int .i64 (D : Int)] := by rw [hw2, hw1, hS]; exact (Held.new _ _ _).alloc _
  have hg1 : Held w2 A1 29 #[.slice none 0 0, .slice none 0 0, .int .i64 0] := by
    have e1 : w1.heap.size = A1 := by rw [hw1, World.size_alloc, hA1]
    rw [hw2, ← e1]; exact Held.new _ _ _
  have hnb : n ≤ 1000 := by omega
  have hkb : kk ≤ 1000 := by omega
  have hDb : D ≤ 1000 := by omega
  have HH := hidden H
  have HS := hidden hS
  have HA := hidden hA1
  have HN := hidden hn
  have HKK := hidden hkk
  have HD := hidden hD
  have HW1 := hidden hw1
  have HW2 := hidden hw2
  have HB2 := hidden hb2
  have HG0 := hidden hg0
  have HG1 := hidden hg1
  have hxv : xval (some ⟨gL, 0, none⟩) cL aK cK R ks = .agg #[.slice (some ⟨gL, 0, none⟩) n cL, .slice aK kk cK, .int .i64 (D : Int)] := by unfold xval; rw [hn, hkk, hD]
  rw [hxv]
  have HXV := hidden hxv
  clear hxv hS hA1 hn hkk hD hw1 hw2 hb2 hg0 hg1 H hl hR hks
  go_enter Try.func12, Try.ntmps12
  go_wp2_with fail
  rw [show (w.alloc (.cells #[.slice (some ⟨gL, 0, none⟩) n cL, .slice aK kk cK, .int .i64 (D : Int)] 29)).alloc (.cells #[.slice none 0 0, .slice none 0 0, .int .i64 0] 29) = w2 by rw [HW2.out, HW1.out], ← HA.out, ← HS.out]
  go_wp2_with (go_at_call 14; with_reducible refine hfind.mono ?_; rintro e w3 ⟨rfl, hb3⟩)
  clear hfind
  have HB3 := hidden (HB2.out.trans (hb3.mono HB2.out.size))
  have HG0' := hidden (HG0.out.since hb3)
  have HG1' := hidden (HG1.out.since hb3)
  have HX3 := hidden (HH.out.below HB3.out)
  clear hb3
  have x0 : w3.cell? ⟨S, 0, none⟩ = some (.slice (some ⟨gL, 0, none⟩) n cL) := HG0'.out.at_ rfl
  have x1 : w3.cell? ⟨S, 1, none⟩ = some (.slice aK kk cK) := HG0'.out.at_ rfl
  have x2 : w3.cell? ⟨S, 2, none⟩ = some (.int .i64 (D : Int)) := HG0'.out.at_ rfl
  have hSA : S ≠ A1 := by have h1 := HA.out; have h2 := HS.out; omega
  have hAS := hSA.symm
  obtain ⟨gL', haL, _, y0, y1, y2, y3⟩ := HX3.out.vars.va (show j < (flat R).length by have := HN.out; omega)
  injection haL with haL
  injection haL with haL
  subst haL
  rw [hbk] at y1
  clear y0 y2 y3
  have hj0 : decide ((0 : Int) ≤ (j : Int)) = true := by simp
  have hjn : (j : Int) < (n : Int) := by omega
  have z1 : w3.cell? ⟨A1, 0, none⟩ = some (.slice none 0 0) := HG1'.out.at_ rfl
  have z2 : w3.cell? ⟨A1, 1, none⟩ = some (.slice none 0 0) := HG1'.out.at_ rfl
  have z3 : w3.cell? ⟨A1, 2, none⟩ = some (.int .i64 0) := HG1'.out.at_ rfl
  have f1 : w3.frozen? ⟨A1, 0, none⟩ = false := HG1'.out.frozen 0
  have f2 : w3.frozen? ⟨A1, 1, none⟩ = false := HG1'.out.frozen 1
  have f3 : w3.frozen? ⟨A1, 2, none⟩ = false := HG1'.out.frozen 2
  go_quiet (fail)
  go_wp2_with fail
  obtain ⟨wz, hwz⟩ : ∃ wz, wz = (((w3.drewN nq).setCell ⟨A1, 0, none⟩ (.slice (some ⟨gL, 0, none⟩) n cL)).setCell ⟨A1, 1, none⟩ (.slice aK kk cK)).setCell ⟨A1, 2, none⟩ (.int .i64 (D : Int)) := ⟨_, rfl⟩
  have hh : Held wz A1 29 #[.slice (some ⟨gL, 0, none⟩) n cL, .slice aK kk cK, .int .i64 (D : Int)] := by rw [hwz]; exact (((HG1'.out.drewN nq).set 0 _).set 1 _).set 2 _
  have hgr : (w3.drewN nq).grownBy wz (some A1) := by rw [hwz]; exact grown_three (grown_setCell _ _ _ _) (grown_setCell _ _ _ _) (grown_setCell _ _ _ _)
  rw [← hwz]
  clear hwz
  have v0 : wz.cell? ⟨A1, 0, none⟩ = some (.slice (some ⟨gL, 0, none⟩) n cL) := hh.at_ rfl
  have v1 : wz.cell? ⟨A1, 1, none⟩ = some (.slice aK kk cK) := hh.at_ rfl
  have v2 : wz.cell? ⟨A1, 2, none⟩ = some (.int .i64 (D : Int)) := hh.at_ rfl
  have hb3 : Below w.heap.size w (w3.drewN nq) := HB3.out.trans (below_drewN _ _ _)
  have hbf : Below w.heap.size w wz := hb3.trans ⟨hgr.os, hgr.tape, hgr.output, hgr.size, fun j hj => hgr.block j (Nat.lt_of_lt_of_le hj hb3.size) (fun e => by have := HA.out; injection e with e; omega)⟩
  exact bodyPost_ret (v := .tuple #[.agg #[.slice (some ⟨gL, 0, none⟩) n cL, .slice aK kk cK, .int .i64 (D : Int)], .bool false]) (by simp [results, Try.results12, go_sem, v0, v1, v2]) rfl ⟨(some ⟨gL, 0, none⟩), cL, aK, cK, by rw [HXV.out], (HH.out.below hbf).mono (fun g _ h => .inl h), hbf⟩
structure Seen2 (S D : Nat) where
  w : World
  c2 : w.cell? ⟨S, 2, none⟩ = some (.int .i64 (D : Int))
/-- what Declare hands back -/
theorem rd_end {w W wz : World} {N : Nat → Prop} {R R2 : List (List Dc)} {ks ks2 : List Nat} {S A1 n kk D cvx cvy : Nat} {avx avy : Option Addr} {c0 c1 : Array Value} {xL xK nwL nwK : List Value} (hS : S = w.heap.size) (hA : A1 = w.heap.size + 1) (hn : n = (flat R).length) (hk : kk = ks.length) (hD : D = R.length)
    (hvl : vcs (flat R2) = xL ++ nwL) (hkl : kcs ks2 = xK ++ nwK) (hfl : (flat R2).length = (flat R).length + 1) (hrl : R2.length = R.length)
    (hT : Two S S A1 w c0 c1 W (.slice avx (n + 1) cvx) (n + 1) (xL ++ nwL) (.slice avy (kk + 1) cvy) (kk + 1) (xK ++ nwK)) (hg : W.grownBy wz (some A1)) (hk2 : ks2.length = ks.length + 1 := by simp) :
    ∃ aL' cL' aK' cK', Ending.returned (.tuple #[.agg #[.slice avx (n + 1) cvx, .slice avy (kk + 1) cvy, .int .i64 (D : Int)], .bool true]) = .returned (.tuple #[xval aL' cL' aK' cK' R2 ks2, .bool true]) ∧ IsX wz (fun g => N g ∨ w.heap.size ≤ g) aL' cL' aK' cK' R2 ks2 ∧ Below w.heap.size w wz := by
  have hL : wz.ownsRow 0 42 4 (.slice avx (n + 1) cvx) (n + 1) (vcs (flat R2)) := by rw [hvl]; exact own_same hT.ownL fun j hj => hg.block j (hT.ownL.lt j hj).2 (fun e => own_ne hT.ownL hT.a1 (by decide) (by rw [hj]; exact e))
  have hK : wz.ownsRow 0 3 1 (.slice avy (kk + 1) cvy) (kk + 1) (kcs ks2) := by rw [hkl]; exact own_same hT.ownK fun j hj => hg.block j (hT.ownK.lt j hj).2 (fun e => own_ne hT.ownK hT.a1 (by decide) (by rw [hj]; exact e))
  obtain ⟨_, _, e1, c1'⟩ := own_len hL
  injection e1 with _ _ e1
  obtain ⟨_, _, e2, c2'⟩ := own_len hK
  injection e2 with _ _ e2
  refine ⟨avx, cvx, avy, cvy, ?_, ⟨RdC.own hL rfl (fun j hj => .inr (by rw [← hS]; exact hT.obL j hj)), RdC.own hK rfl (fun j hj => .inr (by rw [← hS]; exact hT.obK j hj)), by omega, by omega, own_none hL, own_none hK⟩, ?_⟩
  · unfold xval
    rw [hfl, hk2, hrl, hn, hk, hD]
  · rw [← hS]
    exact hT.below.trans ⟨hg.os, hg.tape, hg.output, hg.size, fun j hj => hg.block j (Nat.lt_of_lt_of_le hj hT.size) (fun e => by injection e with e; omega)⟩
set_option maxRecDepth 100000 in
set_option maxHeartbeats 20000000 in
theorem rdeclare_new {w : World} {N : Nat → Prop} {aL aK : Option Addr} {cL cK : Nat} {b0 : List Dc} {R' R : List (List Dc)} {ks : List Nat} (hRb : R = b0 :: R') (H : IsX w N aL cL aK cK R ks) (s : ByteArray) (k : Int) (hl : (flat R).length ≤ 1000) (hR : R.length ≤ 1000) (hks : ks.length ≤ 1000) (h1 : ¬ k < 1) (h3 : ¬ 3 < k) (hix : ix (flat R) s (flat R).length = -1) :
    Calls Try.prog 12 #[xval aL cL aK cK R ks, .string s, .int .i64 k] w fun e w' => ∃ aL' cL' aK' cK', e = .returned (.tuple #[xval aL' cL' aK' cK' ((b0 ++ [⟨s, ks.length, k.toNat⟩]) :: R') (ks ++ [k.toNat]), .bool true]) ∧ IsX w' (fun g => N g ∨ w.heap.size ≤ g) aL' cL' aK' cK' ((b0 ++ [⟨s, ks.length, k.toNat⟩]) :: R') (ks ++ [k.toNat]) ∧ Below w.heap.size w w' := by
  have hvl : vcs (flat ((b0 ++ [⟨s, ks.length, k.toNat⟩]) :: R')) = vcs (flat R) ++ [.string s, .int .i64 (R.length : Int), .int .i64 (ks.length : Int), .int .i64 k] := by
    rw [flat_more, vcs_app, hRb]
    congr 1
    simp only [vcs, vcv, Dc.at_, List.flatMap_cons, List.flatMap_nil, List.append_nil, List.length_cons]
    rw [show ((k.toNat : Nat) : Int) = k by omega]
  have hkl : kcs (ks ++ [k.toNat]) = kcs ks ++ [.int .i64 k] := by
    unfold kcs
    rw [List.map_append, List.map_singleton, show ((k.toNat : Nat) : Int) = k by omega]
  have hfl : (flat ((b0 ++ [⟨s, ks.length, k.toNat⟩]) :: R')).length = (flat R).length + 1 := by rw [flat_more, hRb, List.length_append]; rfl
  have hrl : ((b0 ++ [(⟨s, ks.length, k.toNat⟩ : Dc)]) :: R').length = R.length := by rw [hRb]; rfl
  have HVL := hidden hvl
  have HKL := hidden hkl
  have HFL := hidden hfl
  have HRL := hidden hrl
  clear hvl hkl hfl hrl
  have h1' : decide (k < 1) = false := by simp; omega
  have h3' : decide (3 < k) = false := by simp; omega
  clear h1 h3
  obtain ⟨S, hS⟩ : ∃ S, S = w.heap.size := ⟨_, rfl⟩
  obtain ⟨A1, hA1⟩ : ∃ A, A = w.heap.size + 1 := ⟨_, rfl⟩
  obtain ⟨n, hn⟩ : ∃ n, n = (flat R).length := ⟨_, rfl⟩
  obtain ⟨kk, hkk⟩ : ∃ x, x = ks.length := ⟨_, rfl⟩
  obtain ⟨D, hD⟩ : ∃ x, x = R.length := ⟨_, rfl⟩
  obtain ⟨w1, hw1⟩ : ∃ w1, w1 = w.alloc (.cells #[.slice aL n cL, .slice aK kk cK, .int .i64 (D : Int)] 29) := ⟨_, rfl⟩
  obtain ⟨w2, hw2⟩ : ∃ w2, w2 = w1.alloc (.cells #[.slice none 0 0, .slice none 0 0, .int .i64 0] 29) := ⟨_, rfl⟩
  have hb2 : Below w.heap.size w w2 := by rw [hw2, hw1]; exact ((Below.refl _ w).alloc (Nat.le_refl _) _).alloc (by simp) _
  have hfind := rfind_any (H.below hb2) s hl
  unfold xval at hfind
  rw [← hn, ← hkk, ← hD] at hfind
  rw [← hn] at hix
  rw [hix] at hfind
  clear hix
  have hg0 : Held w2 S 29 #[.slice aL n cL, .slice aK kk cK, .int .i64 (D : Int)] := by rw [hw2, hw1, hS]; exact (Held.new _ _ _).alloc _
  have hg1 : Held w2 A1 29 #[.slice none 0 0, .slice none 0 0, .int .i64 0] := by
    have e1 : w1.heap.size = A1 := by rw [hw1, World.size_alloc, hA1]
    rw [hw2, ← e1]; exact Held.new _ _ _
  have hnb : n ≤ 1000 := by omega
  have hkb : kk ≤ 1000 := by omega
  have hDb : D ≤ 1000 := by omega
  have HH := hidden H
  have HS := hidden hS
  have HA := hidden hA1
  have HN := hidden hn
  have HKK := hidden hkk
  have HD := hidden hD
  have HW1 := hidden hw1
  have HW2 := hidden hw2
  have HB2 := hidden hb2
  have HG0 := hidden hg0
  have HG1 := hidden hg1
  have hxv : xval aL cL aK cK R ks = .agg #[.slice aL n cL, .slice aK kk cK, .int .i64 (D : Int)] := by unfold xval; rw [hn, hkk, hD]
  rw [hxv]
  have HXV := hidden hxv
  clear hxv hS hA1 hn hkk hD hw1 hw2 hb2 hg0 hg1 H hl hR hks
  go_enter Try.func12, Try.ntmps12
  go_wp2_with fail
  rw [show (w.alloc (.cells #[.slice aL n cL, .slice aK kk cK, .int .i64 (D : Int)] 29)).alloc (.cells #[.slice none 0 0, .slice none 0 0, .int .i64 0] 29) = w2 by rw [HW2.out, HW1.out], ← HA.out, ← HS.out]
  go_wp2_with (go_at_call 14; with_reducible refine hfind.mono ?_; rintro e w3 ⟨rfl, hb3⟩)
  clear hfind
  have HB3 := hidden (HB2.out.trans (hb3.mono HB2.out.size))
  have HG0' := hidden (HG0.out.since hb3)
  have HG1' := hidden (HG1.out.since hb3)
  have HX3 := hidden (HH.out.below HB3.out)
  clear hb3
  have x0 : w3.cell? ⟨S, 0, none⟩ = some (.slice aL n cL) := HG0'.out.at_ rfl
  have x1 : w3.cell? ⟨S, 1, none⟩ = some (.slice aK kk cK) := HG0'.out.at_ rfl
  have x2 : w3.cell? ⟨S, 2, none⟩ = some (.int .i64 (D : Int)) := HG0'.out.at_ rfl
  have hSA : S ≠ A1 := by have h1 := HA.out; have h2 := HS.out; omega
  have hAS := hSA.symm
  have hj0 : decide ((0 : Int) ≤ -1) = false := by decide
  go_quiet (fail)
  obtain ⟨w4, hw4⟩ : ∃ w4, w4 = w3.drewN nq := ⟨_, rfl⟩
  rw [← hw4]
  have HG0q := hidden (show Held w4 S 29 #[.slice aL n cL, .slice aK kk cK, .int .i64 (D : Int)] by rw [hw4]; exact HG0'.out)
  have HG1q := hidden (show Held w4 A1 29 #[.slice none 0 0, .slice none 0 0, .int .i64 0] by rw [hw4]; exact HG1'.out)
  have HX4 := hidden (show IsX w4 N aL cL aK cK R ks by rw [hw4]; exact HX3.out.below (below_drewN _ _ _))
  have HB4 := hidden (show Below w.heap.size w w4 by rw [hw4]; exact HB3.out.trans (below_drewN _ _ _))
  have x0' : (w4.alloc (.cells #[] 42)).cell? ⟨S, 0, none⟩ = some (.slice aL n cL) := (HG0q.out.alloc _).at_ rfl
  have hvn := vcs_length (flat R)
  rw [← HN.out] at hvn
  have hkn : (kcs ks).length = kk * 1 := by unfold kcs; rw [List.length_map, HKK.out]; omega
  have HVN := hidden hvn
  have HKN := hidden hkn
  clear hw4 x0 x1 x2 HG0' HG1' HX3 HB3 hvn hkn hj0 h1' h3'
  go_wp2_with (first | (at_builtin; refine wpList_copy rfl (.tmp 36) (.tmp 38) 26 42 (.agg #[.string ⟨#[]⟩, .int .i64 0, .int .i64 0, .int .i64 0]) 4 40 Try.underlying26 infoX rfl (by decide) (by decide) rfl w4 aL n cL (vcs (flat R)) N rfl rfl HX4.out.vars HVN.out HX4.out.nilL (vcs_one _) (by omega) ?_; intro av cv w5 hown5 hb5; have x15 : (w5.alloc (.cells #[] 3)).cell? ⟨S, 1, none⟩ = some (.slice aK kk cK) := ((HG0q.out.since hb5).alloc _).at_ rfl) | (at_builtin; refine wpList_copy rfl (.tmp 40) (.tmp 42) 27 3 (.int .i64 0) 1 8 Try.underlying27 infoI' rfl (by decide) (by decide) rfl w5 aK kk cK (kcs ks) N rfl rfl (HX4.out.kinds.below hb5) HKN.out HX4.out.nilK (kcs_one _) (by omega) ?_; intro av2 cv2 w6 hown6 hb6))
  obtain ⟨w7, hw7⟩ : ∃ w7, w7 = w6.drew := ⟨_, rfl⟩
  have hSw : S ≤ w4.heap.size := by have h1 := HB4.out.size; have h2 := HS.out; omega
  have hT7 : Two S S A1 w #[.slice aL n cL, .slice aK kk cK, .int .i64 (D : Int)] #[.slice none 0 0, .slice none 0 0, .int .i64 0] w7 (.slice av n cv) n (vcs (flat R)) (.slice av2 kk cv2) kk (kcs ks) := by
    have hb7 : Below w5.heap.size w5 w7 := by rw [hw7]; exact hb6.drew
    have hown7 : w7.ownsRow w5.heap.size 3 1 (.slice av2 kk cv2) kk (kcs ks) := by rw [hw7]; exact hown6
    refine ⟨own_base (own_below hown5 hb7) (Nat.zero_le _), own_base hown7 (Nat.zero_le _), ((HG0q.out.since hb5).since hb7), ((HG1q.out.since hb5).since hb7), fun k hk => Nat.le_trans hSw (hown5.lt k hk).1, fun k hk => Nat.le_trans (Nat.le_trans hSw hb5.size) (hown7.lt k hk).1, ?_, Nat.le_trans hSw (Nat.le_trans hb5.size hb7.size)⟩
    have h4 := HB4.out
    rw [← HS.out] at h4
    exact (h4.trans (hb5.mono hSw)).trans (hb7.mono (Nat.le_trans hSw hb5.size))
  have HT7 := hidden hT7
  clear hT7 hSw hown5 hown6 hb5 hb6 x15 x0' HG0q HG1q HX4 HB4
  refine wp_region_big (F := fun w' => ∃ i : Seen2 S D, w' = i.w) 2 (by kernel_rfl) (by decide) ?_
  change wpF _ _ _ _ _ _ _ _ w6.drew
  rw [← hw7]
  clear hw7
  refine wpF_mask (m := 5) [true,true,true,true,true,true,true,true,false,false,true,true,false,false,true,true,false,false,false] (by intro c a d v w h; cases d <;> exact h) (by kernel_rfl) ⟨⟨w7, HT7.out.a0.at_ rfl⟩, rfl⟩ ?_
  have hne : Nonempty (Seen2 S D) := ⟨⟨w7, HT7.out.a0.at_ rfl⟩⟩
  have f0 : ∀ i : Seen2 S D, i.w.cell? ⟨S, 2, none⟩ = some (.int .i64 (D : Int)) := fun i => i.c2
  simp only [leftOf]
  repeat (go_big_quiet_step (fail))
  refine wpQuiet_nil ?_
  clear f0
  have HN2 := hidden (show ∀ u ∈ ([.string s, .int .i64 (D : Int), .int .i64 (kk : Int), .int .i64 k] : List Value), u.oneCell' = true by simp [Value.oneCell'])
  have HN4 := hidden (show ∀ u ∈ ([.int .i64 k] : List Value), u.oneCell' = true by simp [Value.oneCell'])
  refine wpF_two 8 12 (by kernel_rfl) ?_ ?_
  · simp only [List.drop_succ_cons, List.drop_zero, List.take_succ_cons, List.take_zero]
    go_wp2_with fail
    obtain ⟨q1, hq1⟩ : ∃ x, x = w7.alloc (.cells #[.string s, .int .i64 (D : Int), .int .i64 (kk : Int), .int .i64 k] 42) := ⟨_, rfl⟩
    obtain ⟨gL, hgL⟩ : ∃ x, x = w7.heap.size := ⟨_, rfl⟩
    rw [← hq1, ← hgL]
    have T1 := hidden (HT7.out.alloc (.cells #[.string s, .int .i64 (D : Int), .int .i64 (kk : Int), .int .i64 k] 42))
    have SL := hidden (Held.new w7 42 #[.string s, .int .i64 (D : Int), .int .i64 (kk : Int), .int .i64 k])
    rw [← hq1] at T1
    rw [← hq1, ← hgL] at SL
    clear hq1 hgL
    refine And.intro ⟨⟨q1, T1.out.a0.at_ rfl⟩, rfl⟩ ?_
    refine wpF_two 9 12 (by kernel_rfl) ?_ ?_
    · simp only [List.drop_succ_cons, List.drop_zero, List.take_succ_cons, List.take_zero]
      go_wp2_with (at_builtin; refine wpList_more' rfl (.tmp 44) (.tmp 52) 26 42 (.agg #[.string ⟨#[]⟩, .int .i64 0, .int .i64 0, .int .i64 0]) 4 40 Try.underlying26 infoX rfl (by decide) (by decide) rfl q1 (.slice av n cv) n (vcs (flat R)) [.string s, .int .i64 (D : Int), .int .i64 (kk : Int), .int .i64 k] gL SL.out rfl rfl T1.out.ownL (by omega) rfl HN2.out ?_; intro avx cvx q2 ho hg hw)
      have T2 := hidden (T1.out.appL ho hg hw)
      clear ho hg hw
      refine And.intro ⟨⟨q2, T2.out.a0.at_ rfl⟩, rfl⟩ ?_
      refine wpF_one 12 (by kernel_rfl) ?_
      simp only [List.drop_succ_cons, List.drop_zero, List.take_succ_cons, List.take_zero]
      go_wp2_with fail
      obtain ⟨q3, hq3⟩ : ∃ x, x = q2.alloc (.cells #[.int .i64 k] 3) := ⟨_, rfl⟩
      obtain ⟨gK, hgK⟩ : ∃ x, x = q2.heap.size := ⟨_, rfl⟩
      rw [← hq3, ← hgK]
      have T3 := hidden (T2.out.alloc (.cells #[.int .i64 k] 3))
      have SK := hidden (Held.new q2 3 #[.int .i64 k])
      rw [← hq3] at T3
      rw [← hq3, ← hgK] at SK
      clear hq3 hgK
      refine And.intro ⟨⟨q3, T3.out.a0.at_ rfl⟩, rfl⟩ ?_
      refine wpF_one 13 (by kernel_rfl) ?_
      simp only [List.drop_succ_cons, List.drop_zero, List.take_succ_cons, List.take_zero]
      go_wp2_with (at_builtin; refine wpList_more' rfl (.tmp 54) (.tmp 56) 27 3 (.int .i64 0) 1 8 Try.underlying27 infoI' rfl (by decide) (by decide) rfl q3 (.slice av2 kk cv2) kk (kcs ks) [.int .i64 k] gK SK.out rfl rfl T3.out.ownK (by omega) rfl HN4.out ?_; intro avy cvy q4 ho hg hw)
      have T4 := hidden (T3.out.appK ho hg hw)
      clear ho hg hw
      refine And.intro ⟨⟨q4, T4.out.a0.at_ rfl⟩, rfl⟩ ?_
      refine wpF_mask (m := 0) [false,false,false,false,false,false,false,false,false,false,false,false,false,false,false,false,true,false,false] (by intro c a d v w h; cases d <;> exact h) (by kernel_rfl) ⟨⟨q4, T4.out.a0.at_ rfl⟩, rfl⟩ ?_
      simp only [leftOf]
      repeat (go_big_quiet_step (fail))
      refine wpQuiet_nil ?_
      refine wpF_tail 17 (by kernel_rfl) ?_
      simp only [List.drop_succ_cons, List.drop_zero]
      have z1 : q4.cell? ⟨A1, 0, none⟩ = some (.slice none 0 0) := T4.out.a1.at_ rfl
      have z2 : q4.cell? ⟨A1, 1, none⟩ = some (.slice none 0 0) := T4.out.a1.at_ rfl
      have z3 : q4.cell? ⟨A1, 2, none⟩ = some (.int .i64 0) := T4.out.a1.at_ rfl
      have f1 : q4.frozen? ⟨A1, 0, none⟩ = false := T4.out.a1.frozen 0
      have f2 : q4.frozen? ⟨A1, 1, none⟩ = false := T4.out.a1.frozen 1
      have f3 : q4.frozen? ⟨A1, 2, none⟩ = false := T4.out.a1.frozen 2
      go_wp2_with fail
      obtain ⟨wz, hwz⟩ : ∃ wz, wz = ((q4.setCell ⟨A1, 0, none⟩ (.slice avx (n + 1) cvx)).setCell ⟨A1, 1, none⟩ (.slice avy (kk + 1) cvy)).setCell ⟨A1, 2, none⟩ (.int .i64 (D : Int)) := ⟨_, rfl⟩
      have hh : Held wz A1 29 #[.slice avx (n + 1) cvx, .slice avy (kk + 1) cvy, .int .i64 (D : Int)] := by rw [hwz]; exact ((T4.out.a1.set 0 _).set 1 _).set 2 _
      have hgr : q4.grownBy wz (some A1) := by rw [hwz]; exact grown_three (grown_setCell _ _ _ _) (grown_setCell _ _ _ _) (grown_setCell _ _ _ _)
      rw [← hwz]
      clear hwz
      have v0 : wz.cell? ⟨A1, 0, none⟩ = some (.slice avx (n + 1) cvx) := hh.at_ rfl
      have v1 : wz.cell? ⟨A1, 1, none⟩ = some (.slice avy (kk + 1) cvy) := hh.at_ rfl
      have v2 : wz.cell? ⟨A1, 2, none⟩ = some (.int .i64 (D : Int)) := hh.at_ rfl
      exact bodyPost_ret (v := .tuple #[.agg #[.slice avx (n + 1) cvx, .slice avy (kk + 1) cvy, .int .i64 (D : Int)], .bool true]) (by simp [results, Try.results12, go_sem, v0, v1, v2]) rfl (rd_end HS.out HA.out HN.out HKK.out HD.out (show vcs (flat ((b0 ++ [⟨s, ks.length, k.toNat⟩]) :: R')) = vcs (flat R) ++ [.string s, .int .i64 (D : Int), .int .i64 (kk : Int), .int .i64 k] by rw [HD.out, HKK.out]; exact HVL.out) HKL.out HFL.out HRL.out T4.out hgr)
    · simp only [List.drop_succ_cons, List.drop_zero, List.take_succ_cons, List.take_zero]
      go_wp2_with fail
      obtain ⟨q2, hq2⟩ : ∃ x, x = q1.alloc (.cells #[.int .i64 k] 3) := ⟨_, rfl⟩
      obtain ⟨gK, hgK⟩ : ∃ x, x = q1.heap.size := ⟨_, rfl⟩
      rw [← hq2, ← hgK]
      have T2 := hidden (T1.out.alloc (.cells #[.int .i64 k] 3))
      have SK := hidden (Held.new q1 3 #[.int .i64 k])
      rw [← hq2] at T2
      rw [← hq2, ← hgK] at SK
      have SL' := hidden (SL.out.alloc (.cells #[.int .i64 k] 3))
      rw [← hq2] at SL'
      clear SL
      have SL := SL'
      clear SL'
      clear hq2 hgK
      refine And.intro ⟨⟨q2, T2.out.a0.at_ rfl⟩, rfl⟩ ?_
      refine wpF_one 9 (by kernel_rfl) ?_
      simp only [List.drop_succ_cons, List.drop_zero, List.take_succ_cons, List.take_zero]
      go_wp2_with (at_builtin; refine wpList_more' rfl (.tmp 44) (.tmp 52) 26 42 (.agg #[.string ⟨#[]⟩, .int .i64 0, .int .i64 0, .int .i64 0]) 4 40 Try.underlying26 infoX rfl (by decide) (by decide) rfl q2 (.slice av n cv) n (vcs (flat R)) [.string s, .int .i64 (D : Int), .int .i64 (kk : Int), .int .i64 k] gL SL.out rfl rfl T2.out.ownL (by omega) rfl HN2.out ?_; intro avx cvx q3 ho hg hw)
      have T3 := hidden (T2.out.appL ho hg hw)
      have SK' := hidden (SK.out.block (hg.block _ SK.out.lt (fun e => own_ne T2.out.ownL SK.out (by decide) e.symm)))
      clear SK
      have SK := SK'
      clear SK'
      clear ho hg hw
      refine And.intro ⟨⟨q3, T3.out.a0.at_ rfl⟩, rfl⟩ ?_
      refine wpF_one 13 (by kernel_rfl) ?_
      simp only [List.drop_succ_cons, List.drop_zero, List.take_succ_cons, List.take_zero]
      go_wp2_with (at_builtin; refine wpList_more' rfl (.tmp 54) (.tmp 56) 27 3 (.int .i64 0) 1 8 Try.underlying27 infoI' rfl (by decide) (by decide) rfl q3 (.slice av2 kk cv2) kk (kcs ks) [.int .i64 k] gK SK.out rfl rfl T3.out.ownK (by omega) rfl HN4.out ?_; intro avy cvy q4 ho hg hw)
      have T4 := hidden (T3.out.appK ho hg hw)
      clear ho hg hw
      refine And.intro ⟨⟨q4, T4.out.a0.at_ rfl⟩, rfl⟩ ?_
      refine wpF_mask (m := 0) [false,false,false,false,false,false,false,false,false,false,false,false,false,false,false,false,true,false,false] (by intro c a d v w h; cases d <;> exact h) (by kernel_rfl) ⟨⟨q4, T4.out.a0.at_ rfl⟩, rfl⟩ ?_
      simp only [leftOf]
      repeat (go_big_quiet_step (fail))
      refine wpQuiet_nil ?_
      refine wpF_tail 17 (by kernel_rfl) ?_
      simp only [List.drop_succ_cons, List.drop_zero]
      have z1 : q4.cell? ⟨A1, 0, none⟩ = some (.slice none 0 0) := T4.out.a1.at_ rfl
      have z2 : q4.cell? ⟨A1, 1, none⟩ = some (.slice none 0 0) := T4.out.a1.at_ rfl
      have z3 : q4.cell? ⟨A1, 2, none⟩ = some (.int .i64 0) := T4.out.a1.at_ rfl
      have f1 : q4.frozen? ⟨A1, 0, none⟩ = false := T4.out.a1.frozen 0
      have f2 : q4.frozen? ⟨A1, 1, none⟩ = false := T4.out.a1.frozen 1
      have f3 : q4.frozen? ⟨A1, 2, none⟩ = false := T4.out.a1.frozen 2
      go_wp2_with fail
      obtain ⟨wz, hwz⟩ : ∃ wz, wz = ((q4.setCell ⟨A1, 0, none⟩ (.slice avx (n + 1) cvx)).setCell ⟨A1, 1, none⟩ (.slice avy (kk + 1) cvy)).setCell ⟨A1, 2, none⟩ (.int .i64 (D : Int)) := ⟨_, rfl⟩
      have hh : Held wz A1 29 #[.slice avx (n + 1) cvx, .slice avy (kk + 1) cvy, .int .i64 (D : Int)] := by rw [hwz]; exact ((T4.out.a1.set 0 _).set 1 _).set 2 _
      have hgr : q4.grownBy wz (some A1) := by rw [hwz]; exact grown_three (grown_setCell _ _ _ _) (grown_setCell _ _ _ _) (grown_setCell _ _ _ _)
      rw [← hwz]
      clear hwz
      have v0 : wz.cell? ⟨A1, 0, none⟩ = some (.slice avx (n + 1) cvx) := hh.at_ rfl
      have v1 : wz.cell? ⟨A1, 1, none⟩ = some (.slice avy (kk + 1) cvy) := hh.at_ rfl
      have v2 : wz.cell? ⟨A1, 2, none⟩ = some (.int .i64 (D : Int)) := hh.at_ rfl
      exact bodyPost_ret (v := .tuple #[.agg #[.slice avx (n + 1) cvx, .slice avy (kk + 1) cvy, .int .i64 (D : Int)], .bool true]) (by simp [results, Try.results12, go_sem, v0, v1, v2]) rfl (rd_end HS.out HA.out HN.out HKK.out HD.out (show vcs (flat ((b0 ++ [⟨s, ks.length, k.toNat⟩]) :: R')) = vcs (flat R) ++ [.string s, .int .i64 (D : Int), .int .i64 (kk : Int), .int .i64 k] by rw [HD.out, HKK.out]; exact HVL.out) HKL.out HFL.out HRL.out T4.out hgr)
  · simp only [List.drop_succ_cons, List.drop_zero, List.take_succ_cons, List.take_zero]
    go_wp2_with fail
    obtain ⟨q1, hq1⟩ : ∃ x, x = w7.alloc (.cells #[.int .i64 k] 3) := ⟨_, rfl⟩
    obtain ⟨gK, hgK⟩ : ∃ x, x = w7.heap.size := ⟨_, rfl⟩
    rw [← hq1, ← hgK]
    have T1 := hidden (HT7.out.alloc (.cells #[.int .i64 k] 3))
    have SK := hidden (Held.new w7 3 #[.int .i64 k])
    rw [← hq1] at T1
    rw [← hq1, ← hgK] at SK
    clear hq1 hgK
    refine And.intro ⟨⟨q1, T1.out.a0.at_ rfl⟩, rfl⟩ ?_
    refine wpF_one 8 (by kernel_rfl) ?_
    simp only [List.drop_succ_cons, List.drop_zero, List.take_succ_cons, List.take_zero]
    go_wp2_with fail
    obtain ⟨q2, hq2⟩ : ∃ x, x = q1.alloc (.cells #[.string s, .int .i64 (D : Int), .int .i64 (kk : Int), .int .i64 k] 42) := ⟨_, rfl⟩
    obtain ⟨gL, hgL⟩ : ∃ x, x = q1.heap.size := ⟨_, rfl⟩
    rw [← hq2, ← hgL]
    have T2 := hidden (T1.out.alloc (.cells #[.string s, .int .i64 (D : Int), .int .i64 (kk : Int), .int .i64 k] 42))
    have SL := hidden (Held.new q1 42 #[.string s, .int .i64 (D : Int), .int .i64 (kk : Int), .int .i64 k])
    rw [← hq2] at T2
    rw [← hq2, ← hgL] at SL
    have SK' := hidden (SK.out.alloc (.cells #[.string s, .int .i64 (D : Int), .int .i64 (kk : Int), .int .i64 k] 42))
    rw [← hq2] at SK'
    clear SK
    have SK := SK'
    clear SK'
    clear hq2 hgL
    refine And.intro ⟨⟨q2, T2.out.a0.at_ rfl⟩, rfl⟩ ?_
    refine wpF_one 9 (by kernel_rfl) ?_
    simp only [List.drop_succ_cons, List.drop_zero, List.take_succ_cons, List.take_zero]
    go_wp2_with (at_builtin; refine wpList_more' rfl (.tmp 44) (.tmp 52) 26 42 (.agg #[.string ⟨#[]⟩, .int .i64 0, .int .i64 0, .int .i64 0]) 4 40 Try.underlying26 infoX rfl (by decide) (by decide) rfl q2 (.slice av n cv) n (vcs (flat R)) [.string s, .int .i64 (D : Int), .int .i64 (kk : Int), .int .i64 k] gL SL.out rfl rfl T2.out.ownL (by omega) rfl HN2.out ?_; intro avx cvx q3 ho hg hw)
    have T3 := hidden (T2.out.appL ho hg hw)
    have SK' := hidden (SK.out.block (hg.block _ SK.out.lt (fun e => own_ne T2.out.ownL SK.out (by decide) e.symm)))
    clear SK
    have SK := SK'
    clear SK'
    clear ho hg hw
    refine And.intro ⟨⟨q3, T3.out.a0.at_ rfl⟩, rfl⟩ ?_
    refine wpF_one 13 (by kernel_rfl) ?_
    simp only [List.drop_succ_cons, List.drop_zero, List.take_succ_cons, List.take_zero]
    go_wp2_with (at_builtin; refine wpList_more' rfl (.tmp 54) (.tmp 56) 27 3 (.int .i64 0) 1 8 Try.underlying27 infoI' rfl (by decide) (by decide) rfl q3 (.slice av2 kk cv2) kk (kcs ks) [.int .i64 k] gK SK.out rfl rfl T3.out.ownK (by omega) rfl HN4.out ?_; intro avy cvy q4 ho hg hw)
    have T4 := hidden (T3.out.appK ho hg hw)
    clear ho hg hw
    refine And.intro ⟨⟨q4, T4.out.a0.at_ rfl⟩, rfl⟩ ?_
    refine wpF_mask (m := 0) [false,false,false,false,false,false,false,false,false,false,false,false,false,false,false,false,true,false,false] (by intro c a d v w h; cases d <;> exact h) (by kernel_rfl) ⟨⟨q4, T4.out.a0.at_ rfl⟩, rfl⟩ ?_
    simp only [leftOf]
    repeat (go_big_quiet_step (fail))
    refine wpQuiet_nil ?_
    refine wpF_tail 17 (by kernel_rfl) ?_
    simp only [List.drop_succ_cons, List.drop_zero]
    have z1 : q4.cell? ⟨A1, 0, none⟩ = some (.slice none 0 0) := T4.out.a1.at_ rfl
    have z2 : q4.cell? ⟨A1, 1, none⟩ = some (.slice none 0 0) := T4.out.a1.at_ rfl
    have z3 : q4.cell? ⟨A1, 2, none⟩ = some (.int .i64 0) := T4.out.a1.at_ rfl
    have f1 : q4.frozen? ⟨A1, 0, none⟩ = false := T4.out.a1.frozen 0
    have f2 : q4.frozen? ⟨A1, 1, none⟩ = false := T4.out.a1.frozen 1
    have f3 : q4.frozen? ⟨A1, 2, none⟩ = false := T4.out.a1.frozen 2
    go_wp2_with fail
    obtain ⟨wz, hwz⟩ : ∃ wz, wz = ((q4.setCell ⟨A1, 0, none⟩ (.slice avx (n + 1) cvx)).setCell ⟨A1, 1, none⟩ (.slice avy (kk + 1) cvy)).setCell ⟨A1, 2, none⟩ (.int .i64 (D : Int)) := ⟨_, rfl⟩
    have hh : Held wz A1 29 #[.slice avx (n + 1) cvx, .slice avy (kk + 1) cvy, .int .i64 (D : Int)] := by rw [hwz]; exact ((T4.out.a1.set 0 _).set 1 _).set 2 _
    have hgr : q4.grownBy wz (some A1) := by rw [hwz]; exact grown_three (grown_setCell _ _ _ _) (grown_setCell _ _ _ _) (grown_setCell _ _ _ _)
    rw [← hwz]
    clear hwz
    have v0 : wz.cell? ⟨A1, 0, none⟩ = some (.slice avx (n + 1) cvx) := hh.at_ rfl
    have v1 : wz.cell? ⟨A1, 1, none⟩ = some (.slice avy (kk + 1) cvy) := hh.at_ rfl
    have v2 : wz.cell? ⟨A1, 2, none⟩ = some (.int .i64 (D : Int)) := hh.at_ rfl
    exact bodyPost_ret (v := .tuple #[.agg #[.slice avx (n + 1) cvx, .slice avy (kk + 1) cvy, .int .i64 (D : Int)], .bool true]) (by simp [results, Try.results12, go_sem, v0, v1, v2]) rfl (rd_end HS.out HA.out HN.out HKK.out HD.out (show vcs (flat ((b0 ++ [⟨s, ks.length, k.toNat⟩]) :: R')) = vcs (flat R) ++ [.string s, .int .i64 (D : Int), .int .i64 (kk : Int), .int .i64 k] by rw [HD.out, HKK.out]; exact HVL.out) HKL.out HFL.out HRL.out T4.out hgr)
set_option maxRecDepth 100000 in
set_option maxHeartbeats 20000000 in
theorem rdeclare_far {w : World} {N : Nat → Prop} {aL aK : Option Addr} {cL cK : Nat} {b0 : List Dc} {R' R : List (List Dc)} {ks : List Nat} (hRb : R = b0 :: R') (H : IsX w N aL cL aK cK R ks) (s : ByteArray) (k : Int) (hl : (flat R).length ≤ 1000) (hR : R.length ≤ 1000) (hks : ks.length ≤ 1000) (h1 : ¬ k < 1) (h3 : ¬ 3 < k) (j : Nat) (hj : j < (flat R).length) (hix : ix (flat R) s (flat R).length = (j : Int)) (hbk : ((flat R).getD j default).bk ≠ R.length) :
    Calls Try.prog 12 #[xval aL cL aK cK R ks, .string s, .int .i64 k] w fun e w' => ∃ aL' cL' aK' cK', e = .returned (.tuple #[xval aL' cL' aK' cK' ((b0 ++ [⟨s, ks.length, k.toNat⟩]) :: R') (ks ++ [k.toNat]), .bool true]) ∧ IsX w' (fun g => N g ∨ w.heap.size ≤ g) aL' cL' aK' cK' ((b0 ++ [⟨s, ks.length, k.toNat⟩]) :: R') (ks ++ [k.toNat]) ∧ Below w.heap.size w w' := by
  have hvl : vcs (flat ((b0 ++ [⟨s, ks.length, k.toNat⟩]) :: R')) = vcs (flat R) ++ [.string s, .int .i64 (R.length : Int), .int .i64 (ks.length : Int), .int .i64 k] := by
    rw [flat_more, vcs_app, hRb]
    congr 1
    simp only [vcs, vcv, Dc.at_, List.flatMap_cons, List.flatMap_nil, List.append_nil, List.length_cons]
    rw [show ((k.toNat : Nat) : Int) = k by omega]
  have hkl : kcs (ks ++ [k.toNat]) = kcs ks ++ [.int .i64 k] := by
    unfold kcs
    rw [List.map_append, List.map_singleton, show ((k.toNat : Nat) : Int) = k by omega]
  have hfl : (flat ((b0 ++ [⟨s, ks.length, k.toNat⟩]) :: R')).length = (flat R).length + 1 := by rw [flat_more, hRb, List.length_append]; rfl
  have hrl : ((b0 ++ [(⟨s, ks.length, k.toNat⟩ : Dc)]) :: R').length = R.length := by rw [hRb]; rfl
  have HVL := hidden hvl
  have HKL := hidden hkl
  have HFL := hidden hfl
  have HRL := hidden hrl
  clear hvl hkl hfl hrl
  have h1' : decide (k < 1) = false := by simp; omega
  have h3' : decide (3 < k) = false := by simp; omega
  clear h1 h3
  obtain ⟨gL, haL, _, _, _, _, _⟩ := H.vars.va hj
  subst haL
  obtain ⟨S, hS⟩ : ∃ S, S = w.heap.size := ⟨_, rfl⟩
  obtain ⟨A1, hA1⟩ : ∃ A, A = w.heap.size + 1 := ⟨_, rfl⟩
  obtain ⟨n, hn⟩ : ∃ n, n = (flat R).length := ⟨_, rfl⟩
  obtain ⟨kk, hkk⟩ : ∃ x, x = ks.length := ⟨_, rfl⟩
  obtain ⟨D, hD⟩ : ∃ x, x = R.length := ⟨_, rfl⟩
  obtain ⟨w1, hw1⟩ : ∃ w1, w1 = w.alloc (.cells #[.slice (some ⟨gL, 0, none⟩) n cL, .slice aK kk cK, .int .i64 (D : Int)] 29) := ⟨_, rfl⟩
  obtain ⟨w2, hw2⟩ : ∃ w2, w2 = w1.alloc (.cells #[.slice none 0 0, .slice none 0 0, .int .i64 0] 29) := ⟨_, rfl⟩
  have hb2 : Below w.heap.size w w2 := by rw [hw2, hw1]; exact ((Below.refl _ w).alloc (Nat.le_refl _) _).alloc (by simp) _
  have hfind := rfind_any (H.below hb2) s hl
  unfold xval at hfind
  rw [← hn, ← hkk, ← hD] at hfind
  rw [← hn] at hix hj
  rw [hix] at hfind
  clear hix
  rw [← hD] at hbk
  obtain ⟨bk, hbk1⟩ : ∃ x, x = ((flat R).getD j default).bk := ⟨_, rfl⟩
  rw [← hbk1] at hbk
  have HBK := hidden hbk1
  clear hbk1
  have hg0 : Held w2 S 29 #[.slice (some ⟨gL, 0, none⟩) n cL, .slice aK kk cK, .int .i64 (D : Int)] := by rw [hw2, hw1, hS]; exact (Held.new _ _ _).alloc _
  have hg1 : Held w2 A1 29 #[.slice none 0 0, .slice none 0 0, .int .i64 0] := by
    have e1 : w1.heap.size = A1 := by rw [hw1, World.size_alloc, hA1]
    rw [hw2, ← e1]; exact Held.new _ _ _
  have hnb : n ≤ 1000 := by omega
  have hkb : kk ≤ 1000 := by omega
  have hDb : D ≤ 1000 := by omega
  have HH := hidden H
  have HS := hidden hS
  have HA := hidden hA1
  have HN := hidden hn
  have HKK := hidden hkk
  have HD := hidden hD
  have HW1 := hidden hw1
  have HW2 := hidden hw2
  have HB2 := hidden hb2
  have HG0 := hidden hg0
  have HG1 := hidden hg1
  have hxv : xval (some ⟨gL, 0, none⟩) cL aK cK R ks = .agg #[.slice (some ⟨gL, 0, none⟩) n cL, .slice aK kk cK, .int .i64 (D : Int)] := by unfold xval; rw [hn, hkk, hD]
  rw [hxv]
  have HXV := hidden hxv
  clear hxv hS hA1 hn hkk hD hw1 hw2 hb2 hg0 hg1 H hl hR hks
  go_enter Try.func12, Try.ntmps12
  go_wp2_with fail
  rw [show (w.alloc (.cells #[.slice (some ⟨gL, 0, none⟩) n cL, .slice aK kk cK, .int .i64 (D : Int)] 29)).alloc (.cells #[.slice none 0 0, .slice none 0 0, .int .i64 0] 29) = w2 by rw [HW2.out, HW1.out], ← HA.out, ← HS.out]
  go_wp2_with (go_at_call 14; with_reducible refine hfind.mono ?_; rintro e w3 ⟨rfl, hb3⟩)
  clear hfind
  have HB3 := hidden (HB2.out.trans (hb3.mono HB2.out.size))
  have HG0' := hidden (HG0.out.since hb3)
  have HG1' := hidden (HG1.out.since hb3)
  have HX3 := hidden (HH.out.below HB3.out)
  clear hb3
  have x0 : w3.cell? ⟨S, 0, none⟩ = some (.slice (some ⟨gL, 0, none⟩) n cL) := HG0'.out.at_ rfl
  have x1 : w3.cell? ⟨S, 1, none⟩ = some (.slice aK kk cK) := HG0'.out.at_ rfl
  have x2 : w3.cell? ⟨S, 2, none⟩ = some (.int .i64 (D : Int)) := HG0'.out.at_ rfl
  have hSA : S ≠ A1 := by have h1 := HA.out; have h2 := HS.out; omega
  have hAS := hSA.symm
  obtain ⟨gL', haL, _, y0, y1, y2, y3⟩ := HX3.out.vars.va (show j < (flat R).length by have := HN.out; omega)
  injection haL with haL
  injection haL with haL
  subst haL
  rw [← HBK.out] at y1
  clear y0 y2 y3
  have hbq : ((bk : Int) == (D : Int)) = false := by simp only [beq_eq_false_iff_ne, ne_eq]; omega
  have hj0 : decide ((0 : Int) ≤ (j : Int)) = true := by simp
  have hjn : (j : Int) < (n : Int) := by omega
  go_quiet (fail)
  obtain ⟨w4, hw4⟩ : ∃ w4, w4 = w3.drewN nq := ⟨_, rfl⟩
  rw [← hw4]
  have HG0q := hidden (show Held w4 S 29 #[.slice (some ⟨gL, 0, none⟩) n cL, .slice aK kk cK, .int .i64 (D : Int)] by rw [hw4]; exact HG0'.out)
  have HG1q := hidden (show Held w4 A1 29 #[.slice none 0 0, .slice none 0 0, .int .i64 0] by rw [hw4]; exact HG1'.out)
  have HX4 := hidden (show IsX w4 N (some ⟨gL, 0, none⟩) cL aK cK R ks by rw [hw4]; exact HX3.out.below (below_drewN _ _ _))
  have HB4 := hidden (show Below w.heap.size w w4 by rw [hw4]; exact HB3.out.trans (below_drewN _ _ _))
  have x0' : (w4.alloc (.cells #[] 42)).cell? ⟨S, 0, none⟩ = some (.slice (some ⟨gL, 0, none⟩) n cL) := (HG0q.out.alloc _).at_ rfl
  have hvn := vcs_length (flat R)
  rw [← HN.out] at hvn
  have hkn : (kcs ks).length = kk * 1 := by unfold kcs; rw [List.length_map, HKK.out]; omega
  have HVN := hidden hvn
  have HKN := hidden hkn
  clear hw4 x0 x1 x2 HG0' HG1' HX3 HB3 hvn hkn hj0 h1' h3' y1 hbq hjn
  go_wp2_with (first | (at_builtin; refine wpList_copy rfl (.tmp 36) (.tmp 38) 26 42 (.agg #[.string ⟨#[]⟩, .int .i64 0, .int .i64 0, .int .i64 0]) 4 40 Try.underlying26 infoX rfl (by decide) (by decide) rfl w4 (some ⟨gL, 0, none⟩) n cL (vcs (flat R)) N rfl rfl HX4.out.vars HVN.out HX4.out.nilL (vcs_one _) (by omega) ?_; intro av cv w5 hown5 hb5; have x15 : (w5.alloc (.cells #[] 3)).cell? ⟨S, 1, none⟩ = some (.slice aK kk cK) := ((HG0q.out.since hb5).alloc _).at_ rfl) | (at_builtin; refine wpList_copy rfl (.tmp 40) (.tmp 42) 27 3 (.int .i64 0) 1 8 Try.underlying27 infoI' rfl (by decide) (by decide) rfl w5 aK kk cK (kcs ks) N rfl rfl (HX4.out.kinds.below hb5) HKN.out HX4.out.nilK (kcs_one _) (by omega) ?_; intro av2 cv2 w6 hown6 hb6))
  obtain ⟨w7, hw7⟩ : ∃ w7, w7 = w6.drew := ⟨_, rfl⟩
  have hSw : S ≤ w4.heap.size := by have h1 := HB4.out.size; have h2 := HS.out; omega
  have hT7 : Two S S A1 w #[.slice (some ⟨gL, 0, none⟩) n cL, .slice aK kk cK, .int .i64 (D : Int)] #[.slice none 0 0, .slice none 0 0, .int .i64 0] w7 (.slice av n cv) n (vcs (flat R)) (.slice av2 kk cv2) kk (kcs ks) := by
    have hb7 : Below w5.heap.size w5 w7 := by rw [hw7]; exact hb6.drew
    have hown7 : w7.ownsRow w5.heap.size 3 1 (.slice av2 kk cv2) kk (kcs ks) := by rw [hw7]; exact hown6
    refine ⟨own_base (own_below hown5 hb7) (Nat.zero_le _), own_base hown7 (Nat.zero_le _), ((HG0q.out.since hb5).since hb7), ((HG1q.out.since hb5).since hb7), fun k hk => Nat.le_trans hSw (hown5.lt k hk).1, fun k hk => Nat.le_trans (Nat.le_trans hSw hb5.size) (hown7.lt k hk).1, ?_, Nat.le_trans hSw (Nat.le_trans hb5.size hb7.size)⟩
    have h4 := HB4.out
    rw [← HS.out] at h4
    exact (h4.trans (hb5.mono hSw)).trans (hb7.mono (Nat.le_trans hSw hb5.size))
  have HT7 := hidden hT7
  clear hT7 hSw hown5 hown6 hb5 hb6 x15 x0' HG0q HG1q HX4 HB4
  refine wp_region_big (F := fun w' => ∃ i : Seen2 S D, w' = i.w) 2 (by kernel_rfl) (by decide) ?_
  change wpF _ _ _ _ _ _ _ _ w6.drew
  rw [← hw7]
  clear hw7
  refine wpF_mask (m := 5) [true,true,true,true,true,true,true,true,false,false,true,true,false,false,true,true,false,false,false] (by intro c a d v w h; cases d <;> exact h) (by kernel_rfl) ⟨⟨w7, HT7.out.a0.at_ rfl⟩, rfl⟩ ?_
  have hne : Nonempty (Seen2 S D) := ⟨⟨w7, HT7.out.a0.at_ rfl⟩⟩
  have f0 : ∀ i : Seen2 S D, i.w.cell? ⟨S, 2, none⟩ = some (.int .i64 (D : Int)) := fun i => i.c2
  simp only [leftOf]
  repeat (go_big_quiet_step (fail))
  refine wpQuiet_nil ?_
  clear f0
  have HN2 := hidden (show ∀ u ∈ ([.string s, .int .i64 (D : Int), .int .i64 (kk : Int), .int .i64 k] : List Value), u.oneCell' = true by simp [Value.oneCell'])
  have HN4 := hidden (show ∀ u ∈ ([.int .i64 k] : List Value), u.oneCell' = true by simp [Value.oneCell'])
  refine wpF_two 8 12 (by kernel_rfl) ?_ ?_
  · simp only [List.drop_succ_cons, List.drop_zero, List.take_succ_cons, List.take_zero]
    go_wp2_with fail
    obtain ⟨q1, hq1⟩ : ∃ x, x = w7.alloc (.cells #[.string s, .int .i64 (D : Int), .int .i64 (kk : Int), .int .i64 k] 42) := ⟨_, rfl⟩
    obtain ⟨gL, hgL⟩ : ∃ x, x = w7.heap.size := ⟨_, rfl⟩
    rw [← hq1, ← hgL]
    have T1 := hidden (HT7.out.alloc (.cells #[.string s, .int .i64 (D : Int), .int .i64 (kk : Int), .int .i64 k] 42))
    have SL := hidden (Held.new w7 42 #[.string s, .int .i64 (D : Int), .int .i64 (kk : Int), .int .i64 k])
    rw [← hq1] at T1
    rw [← hq1, ← hgL] at SL
    clear hq1 hgL
    refine And.intro ⟨⟨q1, T1.out.a0.at_ rfl⟩, rfl⟩ ?_
    refine wpF_two 9 12 (by kernel_rfl) ?_ ?_
    · simp only [List.drop_succ_cons, List.drop_zero, List.take_succ_cons, List.take_zero]
      go_wp2_with (at_builtin; refine wpList_more' rfl (.tmp 44) (.tmp 52) 26 42 (.agg #[.string ⟨#[]⟩, .int .i64 0, .int .i64 0, .int .i64 0]) 4 40 Try.underlying26 infoX rfl (by decide) (by decide) rfl q1 (.slice av n cv) n (vcs (flat R)) [.string s, .int .i64 (D : Int), .int .i64 (kk : Int), .int .i64 k] gL SL.out rfl rfl T1.out.ownL (by omega) rfl HN2.out ?_; intro avx cvx q2 ho hg hw)
      have T2 := hidden (T1.out.appL ho hg hw)
      clear ho hg hw
      refine And.intro ⟨⟨q2, T2.out.a0.at_ rfl⟩, rfl⟩ ?_
      refine wpF_one 12 (by kernel_rfl) ?_
      simp only [List.drop_succ_cons, List.drop_zero, List.take_succ_cons, List.take_zero]
      go_wp2_with fail
      obtain ⟨q3, hq3⟩ : ∃ x, x = q2.alloc (.cells #[.int .i64 k] 3) := ⟨_, rfl⟩
      obtain ⟨gK, hgK⟩ : ∃ x, x = q2.heap.size := ⟨_, rfl⟩
      rw [← hq3, ← hgK]
      have T3 := hidden (T2.out.alloc (.cells #[.int .i64 k] 3))
      have SK := hidden (Held.new q2 3 #[.int .i64 k])
      rw [← hq3] at T3
      rw [← hq3, ← hgK] at SK
      clear hq3 hgK
      refine And.intro ⟨⟨q3, T3.out.a0.at_ rfl⟩, rfl⟩ ?_
      refine wpF_one 13 (by kernel_rfl) ?_
      simp only [List.drop_succ_cons, List.drop_zero, List.take_succ_cons, List.take_zero]
      go_wp2_with (at_builtin; refine wpList_more' rfl (.tmp 54) (.tmp 56) 27 3 (.int .i64 0) 1 8 Try.underlying27 infoI' rfl (by decide) (by decide) rfl q3 (.slice av2 kk cv2) kk (kcs ks) [.int .i64 k] gK SK.out rfl rfl T3.out.ownK (by omega) rfl HN4.out ?_; intro avy cvy q4 ho hg hw)
      have T4 := hidden (T3.out.appK ho hg hw)
      clear ho hg hw
      refine And.intro ⟨⟨q4, T4.out.a0.at_ rfl⟩, rfl⟩ ?_
      refine wpF_mask (m := 0) [false,false,false,false,false,false,false,false,false,false,false,false,false,false,false,false,true,false,false] (by intro c a d v w h; cases d <;> exact h) (by kernel_rfl) ⟨⟨q4, T4.out.a0.at_ rfl⟩, rfl⟩ ?_
      simp only [leftOf]
      repeat (go_big_quiet_step (fail))
      refine wpQuiet_nil ?_
      refine wpF_tail 17 (by kernel_rfl) ?_
      simp only [List.drop_succ_cons, List.drop_zero]
      have z1 : q4.cell? ⟨A1, 0, none⟩ = some (.slice none 0 0) := T4.out.a1.at_ rfl
      have z2 : q4.cell? ⟨A1, 1, none⟩ = some (.slice none 0 0) := T4.out.a1.at_ rfl
      have z3 : q4.cell? ⟨A1, 2, none⟩ = some (.int .i64 0) := T4.out.a1.at_ rfl
      have f1 : q4.frozen? ⟨A1, 0, none⟩ = false := T4.out.a1.frozen 0
      have f2 : q4.frozen? ⟨A1, 1, none⟩ = false := T4.out.a1.frozen 1
      have f3 : q4.frozen? ⟨A1, 2, none⟩ = false := T4.out.a1.frozen 2
      go_wp2_with fail
      obtain ⟨wz, hwz⟩ : ∃ wz, wz = ((q4.setCell ⟨A1, 0, none⟩ (.slice avx (n + 1) cvx)).setCell ⟨A1, 1, none⟩ (.slice avy (kk + 1) cvy)).setCell ⟨A1, 2, none⟩ (.int .i64 (D : Int)) := ⟨_, rfl⟩
      have hh : Held wz A1 29 #[.slice avx (n + 1) cvx, .slice avy (kk + 1) cvy, .int .i64 (D : Int)] := by rw [hwz]; exact ((T4.out.a1.set 0 _).set 1 _).set 2 _
      have hgr : q4.grownBy wz (some A1) := by rw [hwz]; exact grown_three (grown_setCell _ _ _ _) (grown_setCell _ _ _ _) (grown_setCell _ _ _ _)
      rw [← hwz]
      clear hwz
      have v0 : wz.cell? ⟨A1, 0, none⟩ = some (.slice avx (n + 1) cvx) := hh.at_ rfl
      have v1 : wz.cell? ⟨A1, 1, none⟩ = some (.slice avy (kk + 1) cvy) := hh.at_ rfl
      have v2 : wz.cell? ⟨A1, 2, none⟩ = some (.int .i64 (D : Int)) := hh.at_ rfl
      exact bodyPost_ret (v := .tuple #[.agg #[.slice avx (n + 1) cvx, .slice avy (kk + 1) cvy, .int .i64 (D : Int)], .bool true]) (by simp [results, Try.results12, go_sem, v0, v1, v2]) rfl (rd_end HS.out HA.out HN.out HKK.out HD.out (show vcs (flat ((b0 ++ [⟨s, ks.length, k.toNat⟩]) :: R')) = vcs (flat R) ++ [.string s, .int .i64 (D : Int), .int .i64 (kk : Int), .int .i64 k] by rw [HD.out, HKK.out]; exact HVL.out) HKL.out HFL.out HRL.out T4.out hgr)
    · simp only [List.drop_succ_cons, List.drop_zero, List.take_succ_cons, List.take_zero]
      go_wp2_with fail
      obtain ⟨q2, hq2⟩ : ∃ x, x = q1.alloc (.cells #[.int .i64 k] 3) := ⟨_, rfl⟩
      obtain ⟨gK, hgK⟩ : ∃ x, x = q1.heap.size := ⟨_, rfl⟩
      rw [← hq2, ← hgK]
      have T2 := hidden (T1.out.alloc (.cells #[.int .i64 k] 3))
      have SK := hidden (Held.new q1 3 #[.int .i64 k])
      rw [← hq2] at T2
      rw [← hq2, ← hgK] at SK
      have SL' := hidden (SL.out.alloc (.cells #[.int .i64 k] 3))
      rw [← hq2] at SL'
      clear SL
      have SL := SL'
      clear SL'
      clear hq2 hgK
      refine And.intro ⟨⟨q2, T2.out.a0.at_ rfl⟩, rfl⟩ ?_
      refine wpF_one 9 (by kernel_rfl) ?_
      simp only [List.drop_succ_cons, List.drop_zero, List.take_succ_cons, List.take_zero]
      go_wp2_with (at_builtin; refine wpList_more' rfl (.tmp 44) (.tmp 52) 26 42 (.agg #[.string ⟨#[]⟩, .int .i64 0, .int .i64 0, .int .i64 0]) 4 40 Try.underlying26 infoX rfl (by decide) (by decide) rfl q2 (.slice av n cv) n (vcs (flat R)) [.string s, .int .i64 (D : Int), .int .i64 (kk : Int), .int .i64 k] gL SL.out rfl rfl T2.out.ownL (by omega) rfl HN2.out ?_; intro avx cvx q3 ho hg hw)
      have T3 := hidden (T2.out.appL ho hg hw)
      have SK' := hidden (SK.out.block (hg.block _ SK.out.lt (fun e => own_ne T2.out.ownL SK.out (by decide) e.symm)))
      clear SK
      have SK := SK'
      clear SK'
      clear ho hg hw
      refine And.intro ⟨⟨q3, T3.out.a0.at_ rfl⟩, rfl⟩ ?_
      refine wpF_one 13 (by kernel_rfl) ?_
      simp only [List.drop_succ_cons, List.drop_zero, List.take_succ_cons, List.take_zero]
      go_wp2_with (at_builtin; refine wpList_more' rfl (.tmp 54) (.tmp 56) 27 3 (.int .i64 0) 1 8 Try.underlying27 infoI' rfl (by decide) (by decide) rfl q3 (.slice av2 kk cv2) kk (kcs ks) [.int .i64 k] gK SK.out rfl rfl T3.out.ownK (by omega) rfl HN4.out ?_; intro avy cvy q4 ho hg hw)
      have T4 := hidden (T3.out.appK ho hg hw)
      clear ho hg hw
      refine And.intro ⟨⟨q4, T4.out.a0.at_ rfl⟩, rfl⟩ ?_
      refine wpF_mask (m := 0) [false,false,false,false,false,false,false,false,false,false,false,false,false,false,false,false,true,false,false] (by intro c a d v w h; cases d <;> exact h) (by kernel_rfl) ⟨⟨q4, T4.out.a0.at_ rfl⟩, rfl⟩ ?_
      simp only [leftOf]
      repeat (go_big_quiet_step (fail))
      refine wpQuiet_nil ?_
      refine wpF_tail 17 (by kernel_rfl) ?_
      simp only [List.drop_succ_cons, List.drop_zero]
      have z1 : q4.cell? ⟨A1, 0, none⟩ = some (.slice none 0 0) := T4.out.a1.at_ rfl
      have z2 : q4.cell? ⟨A1, 1, none⟩ = some (.slice none 0 0) := T4.out.a1.at_ rfl
      have z3 : q4.cell? ⟨A1, 2, none⟩ = some (.int .i64 0) := T4.out.a1.at_ rfl
      have f1 : q4.frozen? ⟨A1, 0, none⟩ = false := T4.out.a1.frozen 0
      have f2 : q4.frozen? ⟨A1, 1, none⟩ = false := T4.out.a1.frozen 1
      have f3 : q4.frozen? ⟨A1, 2, none⟩ = false := T4.out.a1.frozen 2
      go_wp2_with fail
      obtain ⟨wz, hwz⟩ : ∃ wz, wz = ((q4.setCell ⟨A1, 0, none⟩ (.slice avx (n + 1) cvx)).setCell ⟨A1, 1, none⟩ (.slice avy (kk + 1) cvy)).setCell ⟨A1, 2, none⟩ (.int .i64 (D : Int)) := ⟨_, rfl⟩
      have hh : Held wz A1 29 #[.slice avx (n + 1) cvx, .slice avy (kk + 1) cvy, .int .i64 (D : Int)] := by rw [hwz]; exact ((T4.out.a1.set 0 _).set 1 _).set 2 _
      have hgr : q4.grownBy wz (some A1) := by rw [hwz]; exact grown_three (grown_setCell _ _ _ _) (grown_setCell _ _ _ _) (grown_setCell _ _ _ _)
      rw [← hwz]
      clear hwz
      have v0 : wz.cell? ⟨A1, 0, none⟩ = some (.slice avx (n + 1) cvx) := hh.at_ rfl
      have v1 : wz.cell? ⟨A1, 1, none⟩ = some (.slice avy (kk + 1) cvy) := hh.at_ rfl
      have v2 : wz.cell? ⟨A1, 2, none⟩ = some (.int .i64 (D : Int)) := hh.at_ rfl
      exact bodyPost_ret (v := .tuple #[.agg #[.slice avx (n + 1) cvx, .slice avy (kk + 1) cvy, .int .i64 (D : Int)], .bool true]) (by simp [results, Try.results12, go_sem, v0, v1, v2]) rfl (rd_end HS.out HA.out HN.out HKK.out HD.out (show vcs (flat ((b0 ++ [⟨s, ks.length, k.toNat⟩]) :: R')) = vcs (flat R) ++ [.string s, .int .i64 (D : Int), .int .i64 (kk : Int), .int .i64 k] by rw [HD.out, HKK.out]; exact HVL.out) HKL.out HFL.out HRL.out T4.out hgr)
  · simp only [List.drop_succ_cons, List.drop_zero, List.take_succ_cons, List.take_zero]
    go_wp2_with fail
    obtain ⟨q1, hq1⟩ : ∃ x, x = w7.alloc (.cells #[.int .i64 k] 3) := ⟨_, rfl⟩
    obtain ⟨gK, hgK⟩ : ∃ x, x = w7.heap.size := ⟨_, rfl⟩
    rw [← hq1, ← hgK]
    have T1 := hidden (HT7.out.alloc (.cells #[.int .i64 k] 3))
    have SK := hidden (Held.new w7 3 #[.int .i64 k])
    rw [← hq1] at T1
    rw [← hq1, ← hgK] at SK
    clear hq1 hgK
    refine And.intro ⟨⟨q1, T1.out.a0.at_ rfl⟩, rfl⟩ ?_
    refine wpF_one 8 (by kernel_rfl) ?_
    simp only [List.drop_succ_cons, List.drop_zero, List.take_succ_cons, List.take_zero]
    go_wp2_with fail
    obtain ⟨q2, hq2⟩ : ∃ x, x = q1.alloc (.cells #[.string s, .int .i64 (D : Int), .int .i64 (kk : Int), .int .i64 k] 42) := ⟨_, rfl⟩
    obtain ⟨gL, hgL⟩ : ∃ x, x = q1.heap.size := ⟨_, rfl⟩
    rw [← hq2, ← hgL]
    have T2 := hidden (T1.out.alloc (.cells #[.string s, .int .i64 (D : Int), .int .i64 (kk : Int), .int .i64 k] 42))
    have SL := hidden (Held.new q1 42 #[.string s, .int .i64 (D : Int), .int .i64 (kk : Int), .int .i64 k])
    rw [← hq2] at T2
    rw [← hq2, ← hgL] at SL
    have SK' := hidden (SK.out.alloc (.cells #[.string s, .int .i64 (D : Int), .int .i64 (kk : Int), .int .i64 k] 42))
    rw [← hq2] at SK'
    clear SK
    have SK := SK'
    clear SK'
    clear hq2 hgL
    refine And.intro ⟨⟨q2, T2.out.a0.at_ rfl⟩, rfl⟩ ?_
    refine wpF_one 9 (by kernel_rfl) ?_
    simp only [List.drop_succ_cons, List.drop_zero, List.take_succ_cons, List.take_zero]
    go_wp2_with (at_builtin; refine wpList_more' rfl (.tmp 44) (.tmp 52) 26 42 (.agg #[.string ⟨#[]⟩, .int .i64 0, .int .i64 0, .int .i64 0]) 4 40 Try.underlying26 infoX rfl (by decide) (by decide) rfl q2 (.slice av n cv) n (vcs (flat R)) [.string s, .int .i64 (D : Int), .int .i64 (kk : Int), .int .i64 k] gL SL.out rfl rfl T2.out.ownL (by omega) rfl HN2.out ?_; intro avx cvx q3 ho hg hw)
    have T3 := hidden (T2.out.appL ho hg hw)
    have SK' := hidden (SK.out.block (hg.block _ SK.out.lt (fun e => own_ne T2.out.ownL SK.out (by decide) e.symm)))
    clear SK
    have SK := SK'
    clear SK'
    clear ho hg hw
    refine And.intro ⟨⟨q3, T3.out.a0.at_ rfl⟩, rfl⟩ ?_
    refine wpF_one 13 (by kernel_rfl) ?_
    simp only [List.drop_succ_cons, List.drop_zero, List.take_succ_cons, List.take_zero]
    go_wp2_with (at_builtin; refine wpList_more' rfl (.tmp 54) (.tmp 56) 27 3 (.int .i64 0) 1 8 Try.underlying27 infoI' rfl (by decide) (by decide) rfl q3 (.slice av2 kk cv2) kk (kcs ks) [.int .i64 k] gK SK.out rfl rfl T3.out.ownK (by omega) rfl HN4.out ?_; intro avy cvy q4 ho hg hw)
    have T4 := hidden (T3.out.appK ho hg hw)
    clear ho hg hw
    refine And.intro ⟨⟨q4, T4.out.a0.at_ rfl⟩, rfl⟩ ?_
    refine wpF_mask (m := 0) [false,false,false,false,false,false,false,false,false,false,false,false,false,false,false,false,true,false,false] (by intro c a d v w h; cases d <;> exact h) (by kernel_rfl) ⟨⟨q4, T4.out.a0.at_ rfl⟩, rfl⟩ ?_
    simp only [leftOf]
    repeat (go_big_quiet_step (fail))
    refine wpQuiet_nil ?_
    refine wpF_tail 17 (by kernel_rfl) ?_
    simp only [List.drop_succ_cons, List.drop_zero]
    have z1 : q4.cell? ⟨A1, 0, none⟩ = some (.slice none 0 0) := T4.out.a1.at_ rfl
    have z2 : q4.cell? ⟨A1, 1, none⟩ = some (.slice none 0 0) := T4.out.a1.at_ rfl
    have z3 : q4.cell? ⟨A1, 2, none⟩ = some (.int .i64 0) := T4.out.a1.at_ rfl
    have f1 : q4.frozen? ⟨A1, 0, none⟩ = false := T4.out.a1.frozen 0
    have f2 : q4.frozen? ⟨A1, 1, none⟩ = false := T4.out.a1.frozen 1
    have f3 : q4.frozen? ⟨A1, 2, none⟩ = false := T4.out.a1.frozen 2
    go_wp2_with fail
    obtain ⟨wz, hwz⟩ : ∃ wz, wz = ((q4.setCell ⟨A1, 0, none⟩ (.slice avx (n + 1) cvx)).setCell ⟨A1, 1, none⟩ (.slice avy (kk + 1) cvy)).setCell ⟨A1, 2, none⟩ (.int .i64 (D : Int)) := ⟨_, rfl⟩
    have hh : Held wz A1 29 #[.slice avx (n + 1) cvx, .slice avy (kk + 1) cvy, .int .i64 (D : Int)] := by rw [hwz]; exact ((T4.out.a1.set 0 _).set 1 _).set 2 _
    have hgr : q4.grownBy wz (some A1) := by rw [hwz]; exact grown_three (grown_setCell _ _ _ _) (grown_setCell _ _ _ _) (grown_setCell _ _ _ _)
    rw [← hwz]
    clear hwz
    have v0 : wz.cell? ⟨A1, 0, none⟩ = some (.slice avx (n + 1) cvx) := hh.at_ rfl
    have v1 : wz.cell? ⟨A1, 1, none⟩ = some (.slice avy (kk + 1) cvy) := hh.at_ rfl
    have v2 : wz.cell? ⟨A1, 2, none⟩ = some (.int .i64 (D : Int)) := hh.at_ rfl
    exact bodyPost_ret (v := .tuple #[.agg #[.slice avx (n + 1) cvx, .slice avy (kk + 1) cvy, .int .i64 (D : Int)], .bool true]) (by simp [results, Try.results12, go_sem, v0, v1, v2]) rfl (rd_end HS.out HA.out HN.out HKK.out HD.out (show vcs (flat ((b0 ++ [⟨s, ks.length, k.toNat⟩]) :: R')) = vcs (flat R) ++ [.string s, .int .i64 (D : Int), .int .i64 (kk : Int), .int .i64 k] by rw [HD.out, HKK.out]; exact HVL.out) HKL.out HFL.out HRL.out T4.out hgr)
end Go.Proofs.Ytncbkedfodaabaa
