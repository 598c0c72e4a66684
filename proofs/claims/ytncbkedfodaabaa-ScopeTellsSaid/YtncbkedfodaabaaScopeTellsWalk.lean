/- The walk of ScopeTells. -/
import Derived.Test.YtncbkedfodaabaaScopeTellsMem
import Derived.Deep.QuietTactic
import Derived.BigQuiet
namespace Go.Proofs.Ytncbkedfodaabaa
open Go.RowKit
set_option linter.unusedVariables false

theorem cell_since {w w' : World} {a : Addr} {v : Value} (hb : Below w.heap.size w w') (h : w.cell? a = some v) : w'.cell? a = some v := (hb.cell (World.block_lt_of_cell? w a h)).trans h
theorem xcs_is {w : World} {X : Nat} {aL aK : Option Addr} {cL cK m k d : Nat} {R : List (List Dc)} {ks : List Nat} (h : Held w X 29 (xcs aL cL aK cK R ks)) (hm : m = (flat R).length) (hk : k = ks.length) (hd : d = R.length) : Held w X 29 #[.slice aL m cL, .slice aK k cK, .int .i64 (d : Int)] := by
  unfold xcs at h
  rw [← hm, ← hk, ← hd] at h
  exact h
theorem closed_small {R : List (List Dc)} (h : R.length ≤ 1) : closed R = R := by
  unfold closed
  split
  · simp at h
  · rfl
/-- the worlds in which all that the last test reads is as it is -/
structure Seen27 (X : Nat) (v0 v1 : Value) (d : Nat) where
  w : World
  c0 : w.cell? ⟨X, 0, none⟩ = some v0
  c1 : w.cell? ⟨X, 1, none⟩ = some v1
  c2 : w.cell? ⟨X, 2, none⟩ = some (.int .i64 (d : Int))
structure Seen28 (X g o : Nat) (v0 v1 : Value) (d sl kd : Nat) where
  w : World
  c0 : w.cell? ⟨X, 0, none⟩ = some v0
  c1 : w.cell? ⟨X, 1, none⟩ = some v1
  c2 : w.cell? ⟨X, 2, none⟩ = some (.int .i64 (d : Int))
  y2 : w.cell? ⟨g, o + 2, none⟩ = some (.int .i64 (sl : Int))
  y3 : w.cell? ⟨g, o + 3, none⟩ = some (.int .i64 (kd : Int))
set_option maxRecDepth 100000 in
set_option maxHeartbeats 40000000 in
theorem tells_walk (a0 : Option Addr) (len0 cap0 : Nat) (l0 : List Ac) (W : World) (h0 : IsActs W a0 len0 cap0 l0) :
    Calls Try.prog 3 #[.slice a0 len0 cap0] W fun e W' => e = .returned (.bool true) ∧ Below W.heap.size W W' := by
  obtain ⟨hl0, _, hA0, hS0⟩ := h0
  by_cases hg0 : 60 < len0
  · have hg0' : decide ((60 : Int) < (len0 : Int)) = true := by simp; omega
    clear hl0 hA0 hS0
    go_enter Try.func3, Try.ntmps3
    go_wp2_with (go_at_call 6; with_reducible refine (works_any W).mono ?_; rintro e w1 ⟨rfl, hb1⟩)
    go_ret
    exact ⟨rfl, hb1⟩
  · have hg0' : decide ((60 : Int) < (len0 : Int)) = false := by simp; omega
    obtain ⟨S, hS⟩ : ∃ S, S = W.heap.size := ⟨_, rfl⟩
    rw [← hS]
    have HS := hidden hS
    have HA0 := hidden hA0
    have HS0 := hidden hS0
    have HL0 := hidden hl0
    have hnb : len0 ≤ 60 := by omega
    clear hl0 hA0 hS0 hg0 hS
    go_enter Try.func3, Try.ntmps3
    go_wp2_with (go_at_call 7; with_reducible refine (new_any W).mono ?_; rintro e w1 ⟨p, F1, rfl, hS1, hb1, ho1⟩)
    have HI1 := hidden hS1
    have HB1 := hidden (show Below S W w1 by rw [HS.out]; exact hb1)
    have HO1 := hidden (show Off S F1 by rw [HS.out]; exact ho1)
    have HZ1 := hidden (show S ≤ w1.heap.size by rw [HS.out]; exact hb1.size)
    clear hS1 hb1 ho1
    go_wp2_with (go_at_call 8; with_reducible refine (rnew_any w1).mono ?_; rintro e w2 ⟨he, hb2⟩; rw [show xval none 0 none 0 [[]] [] = .agg #[.slice none 0 0, .slice none 0 0, .int .i64 1] from rfl] at he; subst he)
    obtain ⟨X, hX⟩ : ∃ X, X = w2.heap.size := ⟨_, rfl⟩
    obtain ⟨w3, hw3⟩ : ∃ w3, w3 = w2.alloc (.cells #[.slice none 0 0, .slice none 0 0, .int .i64 1] 29) := ⟨_, rfl⟩
    rw [← hw3, ← hX]
    have HI3 := hidden (show IsS w3 p F1 [[]] [] by rw [hw3]; exact (HI1.out.below hb2).below ((Below.refl _ _).alloc (Nat.le_refl _) _))
    have HC3 := hidden (show Held w3 X 29 (xcs none 0 none 0 [[]] []) by rw [hw3, hX]; exact Held.new _ _ _)
    have HX3 := hidden (show IsX w3 (Free F1 X) none 0 none 0 [[]] [] from ⟨RdC.nil _ _ _, RdC.nil _ _ _, Nat.le_refl _, Nat.le_refl _, fun _ => rfl, fun _ => rfl⟩)
    have HN3 := hidden (show ¬ F1 X from fun h => by have h1 := (HI1.out.below hb2).lt X h; omega)
    have HB3 := hidden (show Below S W w3 by rw [hw3]; exact (HB1.out.trans (hb2.mono HZ1.out)).alloc (Nat.le_trans HZ1.out hb2.size) _)
    have HXS := hidden (show S ≤ X by rw [hX]; exact Nat.le_trans HZ1.out hb2.size)
    have HXL := hidden (show X < w3.heap.size by rw [hw3, hX]; simp)
    clear hw3 hX hb2 HI1 HB1 HZ1
    go_loopw [5] (fun i wr => ∃ (k : Nat) (F' : Nat → Prop) (R : List (List Dc)) (ks : List Nat) (aL : Option Addr) (cL : Nat) (aK : Option Addr) (cK : Nat), k ≤ len0 ∧ i = .int .i64 (k : Int) ∧ R.length ≤ k + 1 ∧ ks.length ≤ k ∧ (flat R).length ≤ k ∧ Hid (IsS wr p F' R ks) ∧ Hid (IsX wr (Free F' X) aL cL aK cK R ks) ∧ Hid (Held wr X 29 (xcs aL cL aK cK R ks)) ∧ Hid (¬ F' X) ∧ Hid (Below S W wr) ∧ Hid (Off S F')) (fun i _ => len0 - (intOf i).toNat)
    case atStart => exact ⟨0, F1, [[]], [], none, 0, none, 0, by omega, rfl, by simp, by simp, by simp [flat], HI3, HX3, HC3, HN3, HB3, HO1⟩
    case round =>
      obtain ⟨k, F', R, ks, aL, cL, aK, cK, hk, rfl, hbR, hbK, hbF, HI, HX, HC, HNX, HB, HO⟩ := hrel
      by_cases hkn : k < len0
      · have hki : (k : Int) < (len0 : Int) := by omega
        obtain ⟨gb, go, rfl, hglt, hgc⟩ := HA0.out (by have := HL0.out; omega)
        obtain ⟨x, hx⟩ : ∃ x, x = ac l0 k := ⟨_, rfl⟩
        obtain ⟨y0, y1, y2⟩ := hgc k (by have := HL0.out; omega)
        have hxs : x.nm.size ≤ maxLen := by rw [hx]; exact HS0.out k (by have := HL0.out; omega)
        rw [← hx] at y0 y1 y2
        have hlow : ∀ i, wr.cell? ⟨gb, i, none⟩ = W.cell? ⟨gb, i, none⟩ := fun i => HB.out.cell (p := ⟨gb, i, none⟩) (by rw [HS.out]; exact hglt)
        have z0 := (hlow _).trans y0
        have z1 := (hlow _).trans y1
        have z2 := (hlow _).trans y2
        have HXN := hidden hxs
        clear hx hxs y0 y1 y2 hgc hlow hglt
        obtain ⟨xd, xn, xk⟩ := x
        simp only at z0 z1 z2 HXN
        obtain ⟨A, hA⟩ : ∃ A, A = wr.heap.size := ⟨_, rfl⟩
        obtain ⟨w1, hw1⟩ : ∃ w1, w1 = wr.alloc (.cells #[.int .i64 xd, .string xn, .int .i64 xk] 32) := ⟨_, rfl⟩
        obtain ⟨m0, hm0⟩ : ∃ m, m = (flat R).length := ⟨_, rfl⟩
        obtain ⟨k0, hk0⟩ : ∃ m, m = ks.length := ⟨_, rfl⟩
        obtain ⟨d0, hd0⟩ : ∃ m, m = R.length := ⟨_, rfl⟩
        have hZr : S ≤ wr.heap.size := by have h1 := HB.out.size; have h2 := HS.out; omega
        have HY1 := hidden (show Y S W p X A ⟨xd, xn, xk⟩ w1 F' R ks aL cL aK cK R ks by
          rw [hw1, hA]
          exact ⟨HI.out.below ((Below.refl _ _).alloc (Nat.le_refl _) _), HX.out.below ((Below.refl _ _).alloc (Nat.le_refl _) _), HC.out.alloc _, Held.new _ _ _, HNX.out, fun h => by have := HI.out.lt _ h; omega, HB.out.alloc hZr _, HO.out, Nat.le_trans hZr (by simp), HXS.out⟩)
        have hc1 : Held (wr.alloc (.cells #[.int .i64 xd, .string xn, .int .i64 xk] 32)) X 29 #[.slice aL m0 cL, .slice aK k0 cK, .int .i64 (d0 : Int)] := by
          have := HC.out.alloc (.cells #[.int .i64 xd, .string xn, .int .i64 xk] 32)
          unfold xcs at this
          rw [← hm0, ← hk0, ← hd0] at this
          exact this
        have xa0 : (wr.alloc (.cells #[.int .i64 xd, .string xn, .int .i64 xk] 32)).cell? ⟨X, 0, none⟩ = some (.slice aL m0 cL) := hc1.at_ rfl
        have xa1 : (wr.alloc (.cells #[.int .i64 xd, .string xn, .int .i64 xk] 32)).cell? ⟨X, 1, none⟩ = some (.slice aK k0 cK) := hc1.at_ rfl
        have xa2 : (wr.alloc (.cells #[.int .i64 xd, .string xn, .int .i64 xk] 32)).cell? ⟨X, 2, none⟩ = some (.int .i64 (d0 : Int)) := hc1.at_ rfl
        have HAA := hidden hA
        have HWW := hidden hw1
        have HM0 := hidden hm0
        have HK0 := hidden hk0
        have HD0 := hidden hd0
        have hm0b : m0 ≤ k := by omega
        have hk0b : k0 ≤ k := by omega
        have hd0b : d0 ≤ k + 1 := by omega
        have hAX : A ≠ X := by have h1 := HC.out.lt; omega
        have hXA : X ≠ A := hAX.symm
        clear hA hw1 hm0 hk0 hd0 hbR hbK hbF hc1 hZr HI HX HC HNX HB HO
        by_cases hn40 : 40 < xn.size
        · have hn40' : decide ((40 : Int) < (xn.size : Int)) = true := by simp; omega
          go_wp2_with (go_at_call 6; with_reducible refine (works_any _).mono ?_; rintro e wx ⟨rfl, hbx⟩)
          go_ret
          rw [show wr.alloc (.cells #[.int .i64 xd, .string xn, .int .i64 xk] 32) = w1 from HWW.out.symm] at hbx
          exact ⟨rfl, HY1.out.b.trans (hbx.mono HY1.out.z)⟩
        · have hn40' : decide ((40 : Int) < (xn.size : Int)) = false := by simp; omega
          clear hn40
          by_cases hd0 : xd = 0
          · subst hd0
            go_wp2_with fail
            rw [show wr.alloc (.cells #[.int .i64 0, .string xn, .int .i64 xk] 32) = w1 from HWW.out.symm, ← HAA.out]
            clear xa0 xa1 xa2 z0 z1 z2
            go_wp2_with (go_at_call 9; with_reducible refine (open_any HY1.out.s (by have := HD0.out; omega)).mono ?_; rintro e w2 ⟨rfl, F2, hS2, hT2, hG2⟩; have HY2 := hidden (HY1.out.sOp hS2 hT2 hG2); have hc2 : Held w2 X 29 #[.slice aL m0 cL, .slice aK k0 cK, .int .i64 (d0 : Int)] := xcs_is HY2.out.c HM0.out HK0.out HD0.out; have b20 : w2.cell? ⟨X, 0, none⟩ = some (.slice aL m0 cL) := hc2.at_ rfl; have b21 : w2.cell? ⟨X, 1, none⟩ = some (.slice aK k0 cK) := hc2.at_ rfl; have b22 : w2.cell? ⟨X, 2, none⟩ = some (.int .i64 (d0 : Int)) := hc2.at_ rfl; have ba21 : w2.cell? ⟨A, 1, none⟩ = some (.string xn) := HY2.out.a.at_ rfl; have ba22 : w2.cell? ⟨A, 2, none⟩ = some (.int .i64 xk) := HY2.out.a.at_ rfl; have f20 := hc2.frozen 0; have f21 := hc2.frozen 1; have f22 := hc2.frozen 2)
            have hX2 : IsX w2 (Free F2 X) aL cL aK cK ([] :: R) ks := by
              have h := HY2.out.x
              exact ⟨by rw [flat_open]; exact h.vars, h.kinds, by rw [flat_open]; exact h.capL, h.capK, h.nilL, h.nilK⟩
            obtain ⟨wz, hwz⟩ : ∃ wz, wz = w2.setCell ⟨X, 2, none⟩ (.int .i64 ((d0 : Int) + 1)) := ⟨_, rfl⟩
            obtain ⟨nd, hnd⟩ : ∃ nd, nd = d0 + 1 := ⟨_, rfl⟩
            have hnd' : (d0 : Int) + 1 = (nd : Int) := by omega
            have hcz : Held wz X 29 (xcs aL cL aK cK ([] :: R) ks) := by
              unfold xcs
              rw [hwz, flat_open, ← HM0.out, ← HK0.out, show ((([] : List Dc) :: R).length : Int) = (d0 : Int) + 1 by have := HD0.out; simp; omega]
              exact hc2.set 2 _
            have HY := hidden (HY2.out.put hX2 (show w2.grownBy wz (some X) by rw [hwz]; exact grown_setCell _ _ _ _) hcz)
            rw [← hwz, hnd']
            clear hwz hcz hX2 hnd' hS2 hT2 hG2
            clear hc2 b20 b21 b22 ba21 ba22 f20 f21 f22
            have HNL := hidden (show m0 = (flat ([] :: R)).length by rw [flat_open]; exact HM0.out)
            have HNK := HK0
            have HND := hidden (show nd = (([] : List Dc) :: R).length by have := HD0.out; simp; omega)
            have hndb : nd ≤ k + 2 := by omega
            clear hnd
            have hxn : xn.size ≤ maxLen := HXN.out
            have hfind : Calls Try.prog 14 #[.agg #[.slice aL m0 cL, .slice aK k0 cK, .int .i64 (nd : Int)], .string xn] wz fun e w' => e = .returned (.int .i64 (ix (flat ([] :: R)) xn (flat ([] :: R)).length)) ∧ Below wz.heap.size wz w' := by
              have := rfind_any HY.out.x xn (by have := HNL.out; omega)
              unfold xval at this
              rw [← HNK.out, ← HND.out] at this
              rw [HNL.out]
              exact this
            rcases found ([] :: R) xn HY.out.s.fine with ⟨hix, hse⟩ | ⟨j, hj, hix, hs1, hs2, hs3⟩
            · as_aux_lemma =>
                rw [hix] at hfind
                have HSE := hidden hse
                clear hix hse
                go_wp2_with (go_at_call 14; with_reducible refine hfind.mono ?_; rintro e w3 ⟨rfl, hb3⟩; have a13 : w3.cell? ⟨A, 1, none⟩ = some (.string xn) := (HY.out.a.since hb3).at_ rfl)
                have HY3 := hidden (HY.out.below hb3)
                clear hb3 hfind
                have hsf := find_any HY3.out.s hxn
                rw [HSE.out, show told (0, 0, 0) = .tuple #[.int .i64 0, .int .i64 0, .bool false] from rfl] at hsf
                go_wp2_with (go_at_call 15; with_reducible refine hsf.mono ?_; rintro e w4 ⟨rfl, hb4⟩)
                have HY4 := hidden (HY3.out.below hb4)
                clear hb4 hsf a13
                obtain ⟨w5, hw5⟩ : ∃ w5, w5 = w4.drew := ⟨_, rfl⟩
                have HY5 := hidden (show Y S W p X A ⟨0, xn, xk⟩ w5 F2 ([] :: R) ks aL cL aK cK ([] :: R) ks by rw [hw5]; exact HY4.out.below (Below.refl _ _).drew)
                have hh5 : Held w5 X 29 #[.slice aL m0 cL, .slice aK k0 cK, .int .i64 (nd : Int)] := by
                  have := HY5.out.c
                  unfold xcs at this
                  rw [← HNL.out, ← HNK.out, ← HND.out] at this
                  exact this
                have HH5 := hidden hh5
                refine wp_region_bigE (F := fun w' => ∃ i : Seen27 X (.slice aL m0 cL) (.slice aK k0 cK) nd, w' = i.w) (by kernel_rfl) ?_
                change wpE _ _ _ _ _ _ _ w4.drew
                rw [← hw5]
                clear hw5
                have hne : Nonempty (Seen27 X (.slice aL m0 cL) (.slice aK k0 cK) nd) := ⟨⟨w5, hh5.at_ rfl, hh5.at_ rfl, hh5.at_ rfl⟩⟩
                refine wpE_mask (m := 11) [true,true,true,true,true,true,true,true,true,true,true,true,true,true,true,true,true,true,true,true,true,true,true,true,true,true,true,true,true,true,true,true,true,true,true,true,true,true,true,false,true,true,false,false,false,false,false,false,false,false,false,false] (by intro c a d v w h; cases d <;> exact h) (by kernel_rfl) ⟨⟨w5, hh5.at_ rfl, hh5.at_ rfl, hh5.at_ rfl⟩, rfl⟩ ?_
                have f0 : ∀ i : Seen27 X (.slice aL m0 cL) (.slice aK k0 cK) nd, i.w.cell? ⟨X, 0, none⟩ = some (.slice aL m0 cL) := fun i => i.c0
                have f1 : ∀ i : Seen27 X (.slice aL m0 cL) (.slice aK k0 cK) nd, i.w.cell? ⟨X, 1, none⟩ = some (.slice aK k0 cK) := fun i => i.c1
                have f2 : ∀ i : Seen27 X (.slice aL m0 cL) (.slice aK k0 cK) nd, i.w.cell? ⟨X, 2, none⟩ = some (.int .i64 (nd : Int)) := fun i => i.c2
                simp only [leftOf]
                repeat (go_big_quiet_step (fail))
                refine wpQuiet_nil ?_
                have hdep := depth_any HY5.out.s
                rw [← HND.out] at hdep
                refine wpE_one 39 (by kernel_rfl) ?_
                simp only [List.drop_succ_cons, List.drop_zero, List.take_succ_cons, List.take_zero]
                go_wp2_with (go_at_call 16; with_reducible refine hdep.mono ?_; rintro e w6 ⟨rfl, hw6⟩; rw [hw6]; clear hw6 w6)
                clear hdep
                refine And.intro ⟨⟨w5, hh5.at_ rfl, hh5.at_ rfl, hh5.at_ rfl⟩, rfl⟩ ?_
                refine wpE_mask (m := 4) [false,false,false,false,false,false,false,false,false,false,false,false,false,false,false,false,false,false,false,false,false,false,false,false,false,false,false,false,false,false,false,false,false,false,false,false,false,false,false,false,false,false,true,true,true,true,false,true,true,false,false,false] (by intro c a d v w h; cases d <;> exact h) (by kernel_rfl) ⟨⟨w5, hh5.at_ rfl, hh5.at_ rfl, hh5.at_ rfl⟩, rfl⟩ ?_
                simp only [leftOf]
                repeat (go_big_quiet_step (fail))
                refine wpQuiet_nil ?_
                refine wpE_one 46 (by kernel_rfl) ?_
                simp only [List.drop_succ_cons, List.drop_zero, List.take_succ_cons, List.take_zero]
                go_wp2_with (go_at_call 18; with_reducible refine (kinds_any HY5.out.s (by have := HNK.out; omega)).mono ?_; rintro e w6 ⟨v6, rfl, hown6, hb6⟩; obtain ⟨aV, cV, rfl, _, hrV⟩ := own_rows hown6; rw [← HNK.out] at hrV ⊢)
                have hh6 := hh5.since hb6
                have HY6 := hidden (HY5.out.below hb6)
                refine And.intro ⟨⟨w6, hh6.at_ rfl, hh6.at_ rfl, hh6.at_ rfl⟩, rfl⟩ ?_
                have hsm : Calls Try.prog 17 #[.slice aV k0 cV, .slice aK k0 cK] w6 fun e w' => e = .returned (.bool true) ∧ ∃ q, w' = w6.drewN q := by
                  have h1 := HY6.out.x.kinds.rows
                  rw [← HNK.out] at h1
                  have := sameInts_any aV aK k0 k0 cV cK (nums ks) (nums ks) w6 (by omega) (by omega) hrV h1
                  rw [allEq_true (fun _ _ => rfl)] at this
                  simpa using this
                clear hrV hown6 hb6
                refine wpE_one 49 (by kernel_rfl) ?_
                simp only [List.drop_succ_cons, List.drop_zero, List.take_succ_cons, List.take_zero]
                go_wp2_with (go_at_call 17; with_reducible refine hsm.mono ?_; rintro e w7 ⟨rfl, q7, hw7⟩)
                obtain ⟨w8, hw8⟩ : ∃ w8, w8 = w6.drewN q7 := ⟨_, rfl⟩
                rw [← hw8]
                have hh8 : Held w8 X 29 #[.slice aL m0 cL, .slice aK k0 cK, .int .i64 (nd : Int)] := by rw [hw8]; exact hh6.drewN q7
                have HY8 := hidden (show Y S W p X A ⟨0, xn, xk⟩ w8 F2 ([] :: R) ks aL cL aK cK ([] :: R) ks by rw [hw8]; exact HY6.out.below (below_drewN _ _ _))
                clear hw8 hsm
                refine And.intro ⟨⟨w8, hh8.at_ rfl, hh8.at_ rfl, hh8.at_ rfl⟩, rfl⟩ ?_
                refine wpE_mask (m := 0) [false,false,false,false,false,false,false,false,false,false,false,false,false,false,false,false,false,false,false,false,false,false,false,false,false,false,false,false,false,false,false,false,false,false,false,false,false,false,false,false,false,false,false,false,false,false,false,false,false,false,true,true] (by intro c a d v w h; cases d <;> exact h) (by kernel_rfl) ⟨⟨w8, hh8.at_ rfl, hh8.at_ rfl, hh8.at_ rfl⟩, rfl⟩ ?_
                simp only [leftOf]
                repeat (go_big_quiet_step (fail))
                refine wpQuiet_nil ?_
                refine wpE_end (by kernel_rfl) ?_
                clear f0 f1 f2 hne
                go_wp2_with fail
                go_roundw
                case rel =>
                  have q1 := HNL.out
                  have q2 := HNK.out
                  have q3 := HND.out
                  exact ⟨k + 1, F2, ([] :: R), ks, aL, cL, aK, cK, by omega, by go_num, by omega, by omega, by omega, hidden HY8.out.s, hidden HY8.out.x, hidden HY8.out.c, hidden HY8.out.nX, hidden HY8.out.b, hidden HY8.out.o⟩
                case measure => simp [intOf]; omega
            · as_aux_lemma =>
                rw [hix] at hfind
                obtain ⟨gL, haL, _⟩ := HY.out.x.vars.va hj
                subst haL
                obtain ⟨sl, hsl⟩ : ∃ x, x = ((flat ([] :: R)).getD j default).sl := ⟨_, rfl⟩
                obtain ⟨kd, hkd⟩ : ∃ x, x = ((flat ([] :: R)).getD j default).kd := ⟨_, rfl⟩
                rw [hs2] at hs3
                rw [← hsl] at hs1
                rw [← hkd] at hs2 hs3
                have HJ := hidden hj
                have hjn : (j : Int) < (m0 : Int) := by have := HNL.out; omega
                have HSL := hidden hsl
                have HKD := hidden hkd
                have HS12 := hidden (And.intro hs1 hs2)
                have hkz : decide (kd = 0) = false := by simp; omega
                clear hix hj hsl hkd hs1 hs2
                go_wp2_with (go_at_call 14; with_reducible refine hfind.mono ?_; rintro e w3 ⟨rfl, hb3⟩; have a13 : w3.cell? ⟨A, 1, none⟩ = some (.string xn) := (HY.out.a.since hb3).at_ rfl)
                have HY3 := hidden (HY.out.below hb3)
                clear hb3 hfind
                have hsf := find_any HY3.out.s hxn
                rw [show told (Sees ([] :: R) xn) = .tuple #[.int .i64 (sl : Int), .int .i64 (kd : Int), .bool true] by unfold told; rw [HS12.out.1, HS12.out.2, hkz]; rfl] at hsf
                go_wp2_with (go_at_call 15; with_reducible refine hsf.mono ?_; rintro e w4 ⟨rfl, hb4⟩)
                have HY4 := hidden (HY3.out.below hb4)
                have hj0 : decide ((0 : Int) ≤ (j : Int)) = true := by simp
                clear hb4 hsf a13
                obtain ⟨w5, hw5⟩ : ∃ w5, w5 = w4.drew := ⟨_, rfl⟩
                have HY5 := hidden (show Y S W p X A ⟨0, xn, xk⟩ w5 F2 ([] :: R) ks (some ⟨gL, 0, none⟩) cL aK cK ([] :: R) ks by rw [hw5]; exact HY4.out.below (Below.refl _ _).drew)
                have hh5 : Held w5 X 29 #[.slice (some ⟨gL, 0, none⟩) m0 cL, .slice aK k0 cK, .int .i64 (nd : Int)] := by
                  have := HY5.out.c
                  unfold xcs at this
                  rw [← HNL.out, ← HNK.out, ← HND.out] at this
                  exact this
                have hh52 : w5.cell? ⟨gL, j * 4 + 2, none⟩ = some (.int .i64 (sl : Int)) := by
                  obtain ⟨g', hg', _, _, _, y2, _⟩ := HY5.out.x.vars.va HJ.out
                  injection hg' with hg'; injection hg' with hg'; subst hg'
                  rw [y2, HSL.out]
                have hh53 : w5.cell? ⟨gL, j * 4 + 3, none⟩ = some (.int .i64 (kd : Int)) := by
                  obtain ⟨g', hg', _, _, _, _, y3⟩ := HY5.out.x.vars.va HJ.out
                  injection hg' with hg'; injection hg' with hg'; subst hg'
                  rw [y3, HKD.out]
                have HH5 := hidden hh5
                refine wp_region_bigE (F := fun w' => ∃ i : Seen28 X gL (j * 4) (.slice (some ⟨gL, 0, none⟩) m0 cL) (.slice aK k0 cK) nd sl kd, w' = i.w) (by kernel_rfl) ?_
                change wpE _ _ _ _ _ _ _ w4.drew
                rw [← hw5]
                clear hw5
                have hne : Nonempty (Seen28 X gL (j * 4) (.slice (some ⟨gL, 0, none⟩) m0 cL) (.slice aK k0 cK) nd sl kd) := ⟨⟨w5, hh5.at_ rfl, hh5.at_ rfl, hh5.at_ rfl, hh52, hh53⟩⟩
                refine wpE_mask (m := 11) [true,true,true,true,true,true,true,true,true,true,true,true,true,true,true,true,true,true,true,true,true,true,true,true,true,true,true,true,true,true,true,true,true,true,true,true,true,true,true,false,true,true,false,false,false,false,false,false,false,false,false,false] (by intro c a d v w h; cases d <;> exact h) (by kernel_rfl) ⟨⟨w5, hh5.at_ rfl, hh5.at_ rfl, hh5.at_ rfl, hh52, hh53⟩, rfl⟩ ?_
                have f0 : ∀ i : Seen28 X gL (j * 4) (.slice (some ⟨gL, 0, none⟩) m0 cL) (.slice aK k0 cK) nd sl kd, i.w.cell? ⟨X, 0, none⟩ = some (.slice (some ⟨gL, 0, none⟩) m0 cL) := fun i => i.c0
                have f1 : ∀ i : Seen28 X gL (j * 4) (.slice (some ⟨gL, 0, none⟩) m0 cL) (.slice aK k0 cK) nd sl kd, i.w.cell? ⟨X, 1, none⟩ = some (.slice aK k0 cK) := fun i => i.c1
                have f2 : ∀ i : Seen28 X gL (j * 4) (.slice (some ⟨gL, 0, none⟩) m0 cL) (.slice aK k0 cK) nd sl kd, i.w.cell? ⟨X, 2, none⟩ = some (.int .i64 (nd : Int)) := fun i => i.c2
                have f3 : ∀ i : Seen28 X gL (j * 4) (.slice (some ⟨gL, 0, none⟩) m0 cL) (.slice aK k0 cK) nd sl kd, i.w.cell? ⟨gL, j * 4 + 2, none⟩ = some (.int .i64 (sl : Int)) := fun i => i.y2
                have f4 : ∀ i : Seen28 X gL (j * 4) (.slice (some ⟨gL, 0, none⟩) m0 cL) (.slice aK k0 cK) nd sl kd, i.w.cell? ⟨gL, j * 4 + 3, none⟩ = some (.int .i64 (kd : Int)) := fun i => i.y3
                simp only [leftOf]
                repeat (go_big_quiet_step (fail))
                refine wpQuiet_nil ?_
                have hdep := depth_any HY5.out.s
                rw [← HND.out] at hdep
                refine wpE_one 39 (by kernel_rfl) ?_
                simp only [List.drop_succ_cons, List.drop_zero, List.take_succ_cons, List.take_zero]
                go_wp2_with (go_at_call 16; with_reducible refine hdep.mono ?_; rintro e w6 ⟨rfl, hw6⟩; rw [hw6]; clear hw6 w6)
                clear hdep
                refine And.intro ⟨⟨w5, hh5.at_ rfl, hh5.at_ rfl, hh5.at_ rfl, hh52, hh53⟩, rfl⟩ ?_
                refine wpE_mask (m := 4) [false,false,false,false,false,false,false,false,false,false,false,false,false,false,false,false,false,false,false,false,false,false,false,false,false,false,false,false,false,false,false,false,false,false,false,false,false,false,false,false,false,false,true,true,true,true,false,true,true,false,false,false] (by intro c a d v w h; cases d <;> exact h) (by kernel_rfl) ⟨⟨w5, hh5.at_ rfl, hh5.at_ rfl, hh5.at_ rfl, hh52, hh53⟩, rfl⟩ ?_
                simp only [leftOf]
                repeat (go_big_quiet_step (fail))
                refine wpQuiet_nil ?_
                refine wpE_one 46 (by kernel_rfl) ?_
                simp only [List.drop_succ_cons, List.drop_zero, List.take_succ_cons, List.take_zero]
                go_wp2_with (go_at_call 18; with_reducible refine (kinds_any HY5.out.s (by have := HNK.out; omega)).mono ?_; rintro e w6 ⟨v6, rfl, hown6, hb6⟩; obtain ⟨aV, cV, rfl, _, hrV⟩ := own_rows hown6; rw [← HNK.out] at hrV ⊢)
                have hh6 := hh5.since hb6
                have hh62 := (cell_since hb6 hh52)
                have hh63 := (cell_since hb6 hh53)
                have HY6 := hidden (HY5.out.below hb6)
                refine And.intro ⟨⟨w6, hh6.at_ rfl, hh6.at_ rfl, hh6.at_ rfl, hh62, hh63⟩, rfl⟩ ?_
                have hsm : Calls Try.prog 17 #[.slice aV k0 cV, .slice aK k0 cK] w6 fun e w' => e = .returned (.bool true) ∧ ∃ q, w' = w6.drewN q := by
                  have h1 := HY6.out.x.kinds.rows
                  rw [← HNK.out] at h1
                  have := sameInts_any aV aK k0 k0 cV cK (nums ks) (nums ks) w6 (by omega) (by omega) hrV h1
                  rw [allEq_true (fun _ _ => rfl)] at this
                  simpa using this
                clear hrV hown6 hb6
                refine wpE_one 49 (by kernel_rfl) ?_
                simp only [List.drop_succ_cons, List.drop_zero, List.take_succ_cons, List.take_zero]
                go_wp2_with (go_at_call 17; with_reducible refine hsm.mono ?_; rintro e w7 ⟨rfl, q7, hw7⟩)
                obtain ⟨w8, hw8⟩ : ∃ w8, w8 = w6.drewN q7 := ⟨_, rfl⟩
                rw [← hw8]
                have hh8 : Held w8 X 29 #[.slice (some ⟨gL, 0, none⟩) m0 cL, .slice aK k0 cK, .int .i64 (nd : Int)] := by rw [hw8]; exact hh6.drewN q7
                have hh82 : w8.cell? ⟨gL, j * 4 + 2, none⟩ = some (.int .i64 (sl : Int)) := by rw [hw8]; exact hh62
                have hh83 : w8.cell? ⟨gL, j * 4 + 3, none⟩ = some (.int .i64 (kd : Int)) := by rw [hw8]; exact hh63
                have HY8 := hidden (show Y S W p X A ⟨0, xn, xk⟩ w8 F2 ([] :: R) ks (some ⟨gL, 0, none⟩) cL aK cK ([] :: R) ks by rw [hw8]; exact HY6.out.below (below_drewN _ _ _))
                clear hw8 hsm
                refine And.intro ⟨⟨w8, hh8.at_ rfl, hh8.at_ rfl, hh8.at_ rfl, hh82, hh83⟩, rfl⟩ ?_
                refine wpE_mask (m := 0) [false,false,false,false,false,false,false,false,false,false,false,false,false,false,false,false,false,false,false,false,false,false,false,false,false,false,false,false,false,false,false,false,false,false,false,false,false,false,false,false,false,false,false,false,false,false,false,false,false,false,true,true] (by intro c a d v w h; cases d <;> exact h) (by kernel_rfl) ⟨⟨w8, hh8.at_ rfl, hh8.at_ rfl, hh8.at_ rfl, hh82, hh83⟩, rfl⟩ ?_
                simp only [leftOf]
                repeat (go_big_quiet_step (fail))
                refine wpQuiet_nil ?_
                refine wpE_end (by kernel_rfl) ?_
                clear f0 f1 f2 hne
                go_wp2_with fail
                go_roundw
                case rel =>
                  have q1 := HNL.out
                  have q2 := HNK.out
                  have q3 := HND.out
                  exact ⟨k + 1, F2, ([] :: R), ks, (some ⟨gL, 0, none⟩), cL, aK, cK, by omega, by go_num, by omega, by omega, by omega, hidden HY8.out.s, hidden HY8.out.x, hidden HY8.out.c, hidden HY8.out.nX, hidden HY8.out.b, hidden HY8.out.o⟩
                case measure => simp [intOf]; omega
          · by_cases hd1 : xd = 1
            · by_cases hls : 1 < d0
              · subst hd1
                have hls' : decide ((1 : Int) < (d0 : Int)) = true := by simp; omega
                obtain ⟨b1, c1, R', rfl⟩ : ∃ b c R', R = b :: c :: R' := by
                  have h1 := HD0.out
                  match R, h1 with
                  | [], h1 => simp at h1; omega
                  | [b], h1 => simp at h1; omega
                  | b :: c :: R', _ => exact ⟨b, c, R', rfl⟩
                clear hls
                obtain ⟨nl, hnl⟩ : ∃ m, m = (flat (c1 :: R')).length := ⟨_, rfl⟩
                obtain ⟨nd, hnd⟩ : ∃ m, m = (c1 :: R').length := ⟨_, rfl⟩
                have hnlb : nl ≤ k := by have h1 := flat_closed (b1 :: c1 :: R'); have h2 := HM0.out; simp only [closed] at h1; omega
                have hndb : nd ≤ k + 1 := by have h2 := HD0.out; rw [List.length_cons] at h2; omega
                have hrc : Calls Try.prog 10 #[.agg #[.slice aL m0 cL, .slice aK k0 cK, .int .i64 (d0 : Int)]] w1 fun e w' => ∃ aL2 cL2, e = .returned (.agg #[.slice aL2 nl cL2, .slice aK k0 cK, .int .i64 (nd : Int)]) ∧ IsX w' (fun g => Free F' X g ∨ w1.heap.size ≤ g) aL2 cL2 aK cK (c1 :: R') ks ∧ Below w1.heap.size w1 w' := by
                  have := rclose_any HY1.out.x (by have := HM0.out; omega) (by have := HD0.out; simp at this; omega)
                  unfold xval at this
                  rw [← HM0.out, ← HK0.out, ← HD0.out, ← hnl, ← hnd] at this
                  exact this
                have HNL := hidden hnl
                have HNK := HK0
                have HND := hidden hnd
                clear hnl hnd
                go_wp2_with fail
                rw [show wr.alloc (.cells #[.int .i64 1, .string xn, .int .i64 xk] 32) = w1 from HWW.out.symm, ← HAA.out]
                clear xa0 xa1 xa2 z0 z1 z2
                go_wp2_with (go_at_call 10; with_reducible refine hrc.mono ?_; rintro e w2 ⟨aL2, cL2, rfl, hX2, hb2⟩; have HY2 := hidden (HY1.out.below hb2); have hc2 : Held w2 X 29 #[.slice aL m0 cL, .slice aK k0 cK, .int .i64 (d0 : Int)] := xcs_is HY2.out.c HM0.out HK0.out HD0.out; have b20 : w2.cell? ⟨X, 0, none⟩ = some (.slice aL m0 cL) := hc2.at_ rfl; have b21 : w2.cell? ⟨X, 1, none⟩ = some (.slice aK k0 cK) := hc2.at_ rfl; have b22 : w2.cell? ⟨X, 2, none⟩ = some (.int .i64 (d0 : Int)) := hc2.at_ rfl; have ba21 : w2.cell? ⟨A, 1, none⟩ = some (.string xn) := HY2.out.a.at_ rfl; have ba22 : w2.cell? ⟨A, 2, none⟩ = some (.int .i64 xk) := HY2.out.a.at_ rfl; have f20 := hc2.frozen 0; have f21 := hc2.frozen 1; have f22 := hc2.frozen 2)
                obtain ⟨w3, hw3⟩ : ∃ w3, w3 = ((w2.setCell ⟨X, 0, none⟩ (.slice aL2 nl cL2)).setCell ⟨X, 1, none⟩ (.slice aK k0 cK)).setCell ⟨X, 2, none⟩ (.int .i64 (nd : Int)) := ⟨_, rfl⟩
                have hcz : Held w3 X 29 (xcs aL2 cL2 aK cK (c1 :: R') ks) := by
                  unfold xcs
                  rw [hw3, ← HNL.out, ← HNK.out, ← HND.out]
                  exact ((hc2.set 0 _).set 1 _).set 2 _
                have HY3 := hidden (HY2.out.put (HY1.out.news hX2) (show w2.grownBy w3 (some X) by rw [hw3]; exact grown_three (grown_setCell _ _ _ _) (grown_setCell _ _ _ _) (grown_setCell _ _ _ _)) hcz)
                rw [← hw3]
                clear hw3 hcz hX2 hb2 hrc
                clear hc2 b20 b21 b22 ba21 ba22 f20 f21 f22
                have hcl : Calls Try.prog 11 #[.pointer (some ⟨p, 0, none⟩)] w3 fun e w' => e = .returned (.bool true) ∧ ∃ F2, IsS w' p F2 (c1 :: R') ks ∧ Tn F' w3 w' ∧ Grew F' F2 w3 := close_two HY3.out.s (by have := HD0.out; simp at this; omega) (by have := HK0.out; omega)
                go_wp2_with (go_at_call 11; with_reducible refine hcl.mono ?_; rintro e wz ⟨rfl, F2, hS2, hT2, hG2⟩; have HY := hidden (HY3.out.sOp hS2 hT2 hG2); have hc2 : Held wz X 29 #[.slice aL2 nl cL2, .slice aK k0 cK, .int .i64 (nd : Int)] := xcs_is HY.out.c HNL.out HNK.out HND.out; have b20 : wz.cell? ⟨X, 0, none⟩ = some (.slice aL2 nl cL2) := hc2.at_ rfl; have b21 : wz.cell? ⟨X, 1, none⟩ = some (.slice aK k0 cK) := hc2.at_ rfl; have b22 : wz.cell? ⟨X, 2, none⟩ = some (.int .i64 (nd : Int)) := hc2.at_ rfl; have ba21 : wz.cell? ⟨A, 1, none⟩ = some (.string xn) := HY.out.a.at_ rfl; have ba22 : wz.cell? ⟨A, 2, none⟩ = some (.int .i64 xk) := HY.out.a.at_ rfl)
                clear hcl hS2 hT2 hG2
                clear hc2 b20 b21 b22 ba21 ba22
                have hxn : xn.size ≤ maxLen := HXN.out
                have hfind : Calls Try.prog 14 #[.agg #[.slice aL2 nl cL2, .slice aK k0 cK, .int .i64 (nd : Int)], .string xn] wz fun e w' => e = .returned (.int .i64 (ix (flat (c1 :: R')) xn (flat (c1 :: R')).length)) ∧ Below wz.heap.size wz w' := by
                  have := rfind_any HY.out.x xn (by have := HNL.out; omega)
                  unfold xval at this
                  rw [← HNK.out, ← HND.out] at this
                  rw [HNL.out]
                  exact this
                rcases found (c1 :: R') xn HY.out.s.fine with ⟨hix, hse⟩ | ⟨j, hj, hix, hs1, hs2, hs3⟩
                · as_aux_lemma =>
                    rw [hix] at hfind
                    have HSE := hidden hse
                    clear hix hse
                    go_wp2_with (go_at_call 14; with_reducible refine hfind.mono ?_; rintro e w3 ⟨rfl, hb3⟩; have a13 : w3.cell? ⟨A, 1, none⟩ = some (.string xn) := (HY.out.a.since hb3).at_ rfl)
                    have HY3 := hidden (HY.out.below hb3)
                    clear hb3 hfind
                    have hsf := find_any HY3.out.s hxn
                    rw [HSE.out, show told (0, 0, 0) = .tuple #[.int .i64 0, .int .i64 0, .bool false] from rfl] at hsf
                    go_wp2_with (go_at_call 15; with_reducible refine hsf.mono ?_; rintro e w4 ⟨rfl, hb4⟩)
                    have HY4 := hidden (HY3.out.below hb4)
                    clear hb4 hsf a13
                    obtain ⟨w5, hw5⟩ : ∃ w5, w5 = w4.drew := ⟨_, rfl⟩
                    have HY5 := hidden (show Y S W p X A ⟨1, xn, xk⟩ w5 F2 (c1 :: R') ks aL2 cL2 aK cK (c1 :: R') ks by rw [hw5]; exact HY4.out.below (Below.refl _ _).drew)
                    have hh5 : Held w5 X 29 #[.slice aL2 nl cL2, .slice aK k0 cK, .int .i64 (nd : Int)] := by
                      have := HY5.out.c
                      unfold xcs at this
                      rw [← HNL.out, ← HNK.out, ← HND.out] at this
                      exact this
                    have HH5 := hidden hh5
                    refine wp_region_bigE (F := fun w' => ∃ i : Seen27 X (.slice aL2 nl cL2) (.slice aK k0 cK) nd, w' = i.w) (by kernel_rfl) ?_
                    change wpE _ _ _ _ _ _ _ w4.drew
                    rw [← hw5]
                    clear hw5
                    have hne : Nonempty (Seen27 X (.slice aL2 nl cL2) (.slice aK k0 cK) nd) := ⟨⟨w5, hh5.at_ rfl, hh5.at_ rfl, hh5.at_ rfl⟩⟩
                    refine wpE_mask (m := 11) [true,true,true,true,true,true,true,true,true,true,true,true,true,true,true,true,true,true,true,true,true,true,true,true,true,true,true,true,true,true,true,true,true,true,true,true,true,true,true,false,true,true,false,false,false,false,false,false,false,false,false,false] (by intro c a d v w h; cases d <;> exact h) (by kernel_rfl) ⟨⟨w5, hh5.at_ rfl, hh5.at_ rfl, hh5.at_ rfl⟩, rfl⟩ ?_
                    have f0 : ∀ i : Seen27 X (.slice aL2 nl cL2) (.slice aK k0 cK) nd, i.w.cell? ⟨X, 0, none⟩ = some (.slice aL2 nl cL2) := fun i => i.c0
                    have f1 : ∀ i : Seen27 X (.slice aL2 nl cL2) (.slice aK k0 cK) nd, i.w.cell? ⟨X, 1, none⟩ = some (.slice aK k0 cK) := fun i => i.c1
                    have f2 : ∀ i : Seen27 X (.slice aL2 nl cL2) (.slice aK k0 cK) nd, i.w.cell? ⟨X, 2, none⟩ = some (.int .i64 (nd : Int)) := fun i => i.c2
                    simp only [leftOf]
                    repeat (go_big_quiet_step (fail))
                    refine wpQuiet_nil ?_
                    have hdep := depth_any HY5.out.s
                    rw [← HND.out] at hdep
                    refine wpE_one 39 (by kernel_rfl) ?_
                    simp only [List.drop_succ_cons, List.drop_zero, List.take_succ_cons, List.take_zero]
                    go_wp2_with (go_at_call 16; with_reducible refine hdep.mono ?_; rintro e w6 ⟨rfl, hw6⟩; rw [hw6]; clear hw6 w6)
                    clear hdep
                    refine And.intro ⟨⟨w5, hh5.at_ rfl, hh5.at_ rfl, hh5.at_ rfl⟩, rfl⟩ ?_
                    refine wpE_mask (m := 4) [false,false,false,false,false,false,false,false,false,false,false,false,false,false,false,false,false,false,false,false,false,false,false,false,false,false,false,false,false,false,false,false,false,false,false,false,false,false,false,false,false,false,true,true,true,true,false,true,true,false,false,false] (by intro c a d v w h; cases d <;> exact h) (by kernel_rfl) ⟨⟨w5, hh5.at_ rfl, hh5.at_ rfl, hh5.at_ rfl⟩, rfl⟩ ?_
                    simp only [leftOf]
                    repeat (go_big_quiet_step (fail))
                    refine wpQuiet_nil ?_
                    refine wpE_one 46 (by kernel_rfl) ?_
                    simp only [List.drop_succ_cons, List.drop_zero, List.take_succ_cons, List.take_zero]
                    go_wp2_with (go_at_call 18; with_reducible refine (kinds_any HY5.out.s (by have := HNK.out; omega)).mono ?_; rintro e w6 ⟨v6, rfl, hown6, hb6⟩; obtain ⟨aV, cV, rfl, _, hrV⟩ := own_rows hown6; rw [← HNK.out] at hrV ⊢)
                    have hh6 := hh5.since hb6
                    have HY6 := hidden (HY5.out.below hb6)
                    refine And.intro ⟨⟨w6, hh6.at_ rfl, hh6.at_ rfl, hh6.at_ rfl⟩, rfl⟩ ?_
                    have hsm : Calls Try.prog 17 #[.slice aV k0 cV, .slice aK k0 cK] w6 fun e w' => e = .returned (.bool true) ∧ ∃ q, w' = w6.drewN q := by
                      have h1 := HY6.out.x.kinds.rows
                      rw [← HNK.out] at h1
                      have := sameInts_any aV aK k0 k0 cV cK (nums ks) (nums ks) w6 (by omega) (by omega) hrV h1
                      rw [allEq_true (fun _ _ => rfl)] at this
                      simpa using this
                    clear hrV hown6 hb6
                    refine wpE_one 49 (by kernel_rfl) ?_
                    simp only [List.drop_succ_cons, List.drop_zero, List.take_succ_cons, List.take_zero]
                    go_wp2_with (go_at_call 17; with_reducible refine hsm.mono ?_; rintro e w7 ⟨rfl, q7, hw7⟩)
                    obtain ⟨w8, hw8⟩ : ∃ w8, w8 = w6.drewN q7 := ⟨_, rfl⟩
                    rw [← hw8]
                    have hh8 : Held w8 X 29 #[.slice aL2 nl cL2, .slice aK k0 cK, .int .i64 (nd : Int)] := by rw [hw8]; exact hh6.drewN q7
                    have HY8 := hidden (show Y S W p X A ⟨1, xn, xk⟩ w8 F2 (c1 :: R') ks aL2 cL2 aK cK (c1 :: R') ks by rw [hw8]; exact HY6.out.below (below_drewN _ _ _))
                    clear hw8 hsm
                    refine And.intro ⟨⟨w8, hh8.at_ rfl, hh8.at_ rfl, hh8.at_ rfl⟩, rfl⟩ ?_
                    refine wpE_mask (m := 0) [false,false,false,false,false,false,false,false,false,false,false,false,false,false,false,false,false,false,false,false,false,false,false,false,false,false,false,false,false,false,false,false,false,false,false,false,false,false,false,false,false,false,false,false,false,false,false,false,false,false,true,true] (by intro c a d v w h; cases d <;> exact h) (by kernel_rfl) ⟨⟨w8, hh8.at_ rfl, hh8.at_ rfl, hh8.at_ rfl⟩, rfl⟩ ?_
                    simp only [leftOf]
                    repeat (go_big_quiet_step (fail))
                    refine wpQuiet_nil ?_
                    refine wpE_end (by kernel_rfl) ?_
                    clear f0 f1 f2 hne
                    go_wp2_with fail
                    go_roundw
                    case rel =>
                      have q1 := HNL.out
                      have q2 := HNK.out
                      have q3 := HND.out
                      exact ⟨k + 1, F2, (c1 :: R'), ks, aL2, cL2, aK, cK, by omega, by go_num, by omega, by omega, by omega, hidden HY8.out.s, hidden HY8.out.x, hidden HY8.out.c, hidden HY8.out.nX, hidden HY8.out.b, hidden HY8.out.o⟩
                    case measure => simp [intOf]; omega
                · as_aux_lemma =>
                    rw [hix] at hfind
                    obtain ⟨gL, haL, _⟩ := HY.out.x.vars.va hj
                    subst haL
                    obtain ⟨sl, hsl⟩ : ∃ x, x = ((flat (c1 :: R')).getD j default).sl := ⟨_, rfl⟩
                    obtain ⟨kd, hkd⟩ : ∃ x, x = ((flat (c1 :: R')).getD j default).kd := ⟨_, rfl⟩
                    rw [hs2] at hs3
                    rw [← hsl] at hs1
                    rw [← hkd] at hs2 hs3
                    have HJ := hidden hj
                    have hjn : (j : Int) < (nl : Int) := by have := HNL.out; omega
                    have HSL := hidden hsl
                    have HKD := hidden hkd
                    have HS12 := hidden (And.intro hs1 hs2)
                    have hkz : decide (kd = 0) = false := by simp; omega
                    clear hix hj hsl hkd hs1 hs2
                    go_wp2_with (go_at_call 14; with_reducible refine hfind.mono ?_; rintro e w3 ⟨rfl, hb3⟩; have a13 : w3.cell? ⟨A, 1, none⟩ = some (.string xn) := (HY.out.a.since hb3).at_ rfl)
                    have HY3 := hidden (HY.out.below hb3)
                    clear hb3 hfind
                    have hsf := find_any HY3.out.s hxn
                    rw [show told (Sees (c1 :: R') xn) = .tuple #[.int .i64 (sl : Int), .int .i64 (kd : Int), .bool true] by unfold told; rw [HS12.out.1, HS12.out.2, hkz]; rfl] at hsf
                    go_wp2_with (go_at_call 15; with_reducible refine hsf.mono ?_; rintro e w4 ⟨rfl, hb4⟩)
                    have HY4 := hidden (HY3.out.below hb4)
                    have hj0 : decide ((0 : Int) ≤ (j : Int)) = true := by simp
                    clear hb4 hsf a13
                    obtain ⟨w5, hw5⟩ : ∃ w5, w5 = w4.drew := ⟨_, rfl⟩
                    have HY5 := hidden (show Y S W p X A ⟨1, xn, xk⟩ w5 F2 (c1 :: R') ks (some ⟨gL, 0, none⟩) cL2 aK cK (c1 :: R') ks by rw [hw5]; exact HY4.out.below (Below.refl _ _).drew)
                    have hh5 : Held w5 X 29 #[.slice (some ⟨gL, 0, none⟩) nl cL2, .slice aK k0 cK, .int .i64 (nd : Int)] := by
                      have := HY5.out.c
                      unfold xcs at this
                      rw [← HNL.out, ← HNK.out, ← HND.out] at this
                      exact this
                    have hh52 : w5.cell? ⟨gL, j * 4 + 2, none⟩ = some (.int .i64 (sl : Int)) := by
                      obtain ⟨g', hg', _, _, _, y2, _⟩ := HY5.out.x.vars.va HJ.out
                      injection hg' with hg'; injection hg' with hg'; subst hg'
                      rw [y2, HSL.out]
                    have hh53 : w5.cell? ⟨gL, j * 4 + 3, none⟩ = some (.int .i64 (kd : Int)) := by
                      obtain ⟨g', hg', _, _, _, _, y3⟩ := HY5.out.x.vars.va HJ.out
                      injection hg' with hg'; injection hg' with hg'; subst hg'
                      rw [y3, HKD.out]
                    have HH5 := hidden hh5
                    refine wp_region_bigE (F := fun w' => ∃ i : Seen28 X gL (j * 4) (.slice (some ⟨gL, 0, none⟩) nl cL2) (.slice aK k0 cK) nd sl kd, w' = i.w) (by kernel_rfl) ?_
                    change wpE _ _ _ _ _ _ _ w4.drew
                    rw [← hw5]
                    clear hw5
                    have hne : Nonempty (Seen28 X gL (j * 4) (.slice (some ⟨gL, 0, none⟩) nl cL2) (.slice aK k0 cK) nd sl kd) := ⟨⟨w5, hh5.at_ rfl, hh5.at_ rfl, hh5.at_ rfl, hh52, hh53⟩⟩
                    refine wpE_mask (m := 11) [true,true,true,true,true,true,true,true,true,true,true,true,true,true,true,true,true,true,true,true,true,true,true,true,true,true,true,true,true,true,true,true,true,true,true,true,true,true,true,false,true,true,false,false,false,false,false,false,false,false,false,false] (by intro c a d v w h; cases d <;> exact h) (by kernel_rfl) ⟨⟨w5, hh5.at_ rfl, hh5.at_ rfl, hh5.at_ rfl, hh52, hh53⟩, rfl⟩ ?_
                    have f0 : ∀ i : Seen28 X gL (j * 4) (.slice (some ⟨gL, 0, none⟩) nl cL2) (.slice aK k0 cK) nd sl kd, i.w.cell? ⟨X, 0, none⟩ = some (.slice (some ⟨gL, 0, none⟩) nl cL2) := fun i => i.c0
                    have f1 : ∀ i : Seen28 X gL (j * 4) (.slice (some ⟨gL, 0, none⟩) nl cL2) (.slice aK k0 cK) nd sl kd, i.w.cell? ⟨X, 1, none⟩ = some (.slice aK k0 cK) := fun i => i.c1
                    have f2 : ∀ i : Seen28 X gL (j * 4) (.slice (some ⟨gL, 0, none⟩) nl cL2) (.slice aK k0 cK) nd sl kd, i.w.cell? ⟨X, 2, none⟩ = some (.int .i64 (nd : Int)) := fun i => i.c2
                    have f3 : ∀ i : Seen28 X gL (j * 4) (.slice (some ⟨gL, 0, none⟩) nl cL2) (.slice aK k0 cK) nd sl kd, i.w.cell? ⟨gL, j * 4 + 2, none⟩ = some (.int .i64 (sl : Int)) := fun i => i.y2
                    have f4 : ∀ i : Seen28 X gL (j * 4) (.slice (some ⟨gL, 0, none⟩) nl cL2) (.slice aK k0 cK) nd sl kd, i.w.cell? ⟨gL, j * 4 + 3, none⟩ = some (.int .i64 (kd : Int)) := fun i => i.y3
                    simp only [leftOf]
                    repeat (go_big_quiet_step (fail))
                    refine wpQuiet_nil ?_
                    have hdep := depth_any HY5.out.s
                    rw [← HND.out] at hdep
                    refine wpE_one 39 (by kernel_rfl) ?_
                    simp only [List.drop_succ_cons, List.drop_zero, List.take_succ_cons, List.take_zero]
                    go_wp2_with (go_at_call 16; with_reducible refine hdep.mono ?_; rintro e w6 ⟨rfl, hw6⟩; rw [hw6]; clear hw6 w6)
                    clear hdep
                    refine And.intro ⟨⟨w5, hh5.at_ rfl, hh5.at_ rfl, hh5.at_ rfl, hh52, hh53⟩, rfl⟩ ?_
                    refine wpE_mask (m := 4) [false,false,false,false,false,false,false,false,false,false,false,false,false,false,false,false,false,false,false,false,false,false,false,false,false,false,false,false,false,false,false,false,false,false,false,false,false,false,false,false,false,false,true,true,true,true,false,true,true,false,false,false] (by intro c a d v w h; cases d <;> exact h) (by kernel_rfl) ⟨⟨w5, hh5.at_ rfl, hh5.at_ rfl, hh5.at_ rfl, hh52, hh53⟩, rfl⟩ ?_
                    simp only [leftOf]
                    repeat (go_big_quiet_step (fail))
                    refine wpQuiet_nil ?_
                    refine wpE_one 46 (by kernel_rfl) ?_
                    simp only [List.drop_succ_cons, List.drop_zero, List.take_succ_cons, List.take_zero]
                    go_wp2_with (go_at_call 18; with_reducible refine (kinds_any HY5.out.s (by have := HNK.out; omega)).mono ?_; rintro e w6 ⟨v6, rfl, hown6, hb6⟩; obtain ⟨aV, cV, rfl, _, hrV⟩ := own_rows hown6; rw [← HNK.out] at hrV ⊢)
                    have hh6 := hh5.since hb6
                    have hh62 := (cell_since hb6 hh52)
                    have hh63 := (cell_since hb6 hh53)
                    have HY6 := hidden (HY5.out.below hb6)
                    refine And.intro ⟨⟨w6, hh6.at_ rfl, hh6.at_ rfl, hh6.at_ rfl, hh62, hh63⟩, rfl⟩ ?_
                    have hsm : Calls Try.prog 17 #[.slice aV k0 cV, .slice aK k0 cK] w6 fun e w' => e = .returned (.bool true) ∧ ∃ q, w' = w6.drewN q := by
                      have h1 := HY6.out.x.kinds.rows
                      rw [← HNK.out] at h1
                      have := sameInts_any aV aK k0 k0 cV cK (nums ks) (nums ks) w6 (by omega) (by omega) hrV h1
                      rw [allEq_true (fun _ _ => rfl)] at this
                      simpa using this
                    clear hrV hown6 hb6
                    refine wpE_one 49 (by kernel_rfl) ?_
                    simp only [List.drop_succ_cons, List.drop_zero, List.take_succ_cons, List.take_zero]
                    go_wp2_with (go_at_call 17; with_reducible refine hsm.mono ?_; rintro e w7 ⟨rfl, q7, hw7⟩)
                    obtain ⟨w8, hw8⟩ : ∃ w8, w8 = w6.drewN q7 := ⟨_, rfl⟩
                    rw [← hw8]
                    have hh8 : Held w8 X 29 #[.slice (some ⟨gL, 0, none⟩) nl cL2, .slice aK k0 cK, .int .i64 (nd : Int)] := by rw [hw8]; exact hh6.drewN q7
                    have hh82 : w8.cell? ⟨gL, j * 4 + 2, none⟩ = some (.int .i64 (sl : Int)) := by rw [hw8]; exact hh62
                    have hh83 : w8.cell? ⟨gL, j * 4 + 3, none⟩ = some (.int .i64 (kd : Int)) := by rw [hw8]; exact hh63
                    have HY8 := hidden (show Y S W p X A ⟨1, xn, xk⟩ w8 F2 (c1 :: R') ks (some ⟨gL, 0, none⟩) cL2 aK cK (c1 :: R') ks by rw [hw8]; exact HY6.out.below (below_drewN _ _ _))
                    clear hw8 hsm
                    refine And.intro ⟨⟨w8, hh8.at_ rfl, hh8.at_ rfl, hh8.at_ rfl, hh82, hh83⟩, rfl⟩ ?_
                    refine wpE_mask (m := 0) [false,false,false,false,false,false,false,false,false,false,false,false,false,false,false,false,false,false,false,false,false,false,false,false,false,false,false,false,false,false,false,false,false,false,false,false,false,false,false,false,false,false,false,false,false,false,false,false,false,false,true,true] (by intro c a d v w h; cases d <;> exact h) (by kernel_rfl) ⟨⟨w8, hh8.at_ rfl, hh8.at_ rfl, hh8.at_ rfl, hh82, hh83⟩, rfl⟩ ?_
                    simp only [leftOf]
                    repeat (go_big_quiet_step (fail))
                    refine wpQuiet_nil ?_
                    refine wpE_end (by kernel_rfl) ?_
                    clear f0 f1 f2 hne
                    go_wp2_with fail
                    go_roundw
                    case rel =>
                      have q1 := HNL.out
                      have q2 := HNK.out
                      have q3 := HND.out
                      exact ⟨k + 1, F2, (c1 :: R'), ks, (some ⟨gL, 0, none⟩), cL2, aK, cK, by omega, by go_num, by omega, by omega, by omega, hidden HY8.out.s, hidden HY8.out.x, hidden HY8.out.c, hidden HY8.out.nX, hidden HY8.out.b, hidden HY8.out.o⟩
                    case measure => simp [intOf]; omega
              · subst hd1
                have hls' : decide ((1 : Int) < (d0 : Int)) = false := by simp; omega
                have hcl : Calls Try.prog 11 #[.pointer (some ⟨p, 0, none⟩)] w1 fun e w' => e = .returned (.bool false) ∧ ∃ F2, IsS w' p F2 R ks ∧ Tn F' w1 w' ∧ Grew F' F2 w1 := by
                  have := close_any HY1.out.s (by have := HD0.out; omega) (by have := HK0.out; omega)
                  rw [show decide (1 < R.length) = false by have := HD0.out; simp; omega, closed_small (by have := HD0.out; omega)] at this
                  exact this
                clear hls
                go_wp2_with fail
                rw [show wr.alloc (.cells #[.int .i64 1, .string xn, .int .i64 xk] 32) = w1 from HWW.out.symm, ← HAA.out]
                clear xa0 xa1 xa2 z0 z1 z2
                go_wp2_with (go_at_call 11; with_reducible refine hcl.mono ?_; rintro e wz ⟨rfl, F2, hS2, hT2, hG2⟩; have HY := hidden (HY1.out.sOp hS2 hT2 hG2); have hc2 : Held wz X 29 #[.slice aL m0 cL, .slice aK k0 cK, .int .i64 (d0 : Int)] := xcs_is HY.out.c HM0.out HK0.out HD0.out; have b20 : wz.cell? ⟨X, 0, none⟩ = some (.slice aL m0 cL) := hc2.at_ rfl; have b21 : wz.cell? ⟨X, 1, none⟩ = some (.slice aK k0 cK) := hc2.at_ rfl; have b22 : wz.cell? ⟨X, 2, none⟩ = some (.int .i64 (d0 : Int)) := hc2.at_ rfl; have ba21 : wz.cell? ⟨A, 1, none⟩ = some (.string xn) := HY.out.a.at_ rfl; have ba22 : wz.cell? ⟨A, 2, none⟩ = some (.int .i64 xk) := HY.out.a.at_ rfl)
                clear hcl hS2 hT2 hG2
                clear hc2 b20 b21 b22 ba21 ba22
                have HNL := HM0
                have HNK := HK0
                have HND := HD0
                have hxn : xn.size ≤ maxLen := HXN.out
                have hfind : Calls Try.prog 14 #[.agg #[.slice aL m0 cL, .slice aK k0 cK, .int .i64 (d0 : Int)], .string xn] wz fun e w' => e = .returned (.int .i64 (ix (flat R) xn (flat R).length)) ∧ Below wz.heap.size wz w' := by
                  have := rfind_any HY.out.x xn (by have := HNL.out; omega)
                  unfold xval at this
                  rw [← HNK.out, ← HND.out] at this
                  rw [HNL.out]
                  exact this
                rcases found R xn HY.out.s.fine with ⟨hix, hse⟩ | ⟨j, hj, hix, hs1, hs2, hs3⟩
                · as_aux_lemma =>
                    rw [hix] at hfind
                    have HSE := hidden hse
                    clear hix hse
                    go_wp2_with (go_at_call 14; with_reducible refine hfind.mono ?_; rintro e w3 ⟨rfl, hb3⟩; have a13 : w3.cell? ⟨A, 1, none⟩ = some (.string xn) := (HY.out.a.since hb3).at_ rfl)
                    have HY3 := hidden (HY.out.below hb3)
                    clear hb3 hfind
                    have hsf := find_any HY3.out.s hxn
                    rw [HSE.out, show told (0, 0, 0) = .tuple #[.int .i64 0, .int .i64 0, .bool false] from rfl] at hsf
                    go_wp2_with (go_at_call 15; with_reducible refine hsf.mono ?_; rintro e w4 ⟨rfl, hb4⟩)
                    have HY4 := hidden (HY3.out.below hb4)
                    clear hb4 hsf a13
                    obtain ⟨w5, hw5⟩ : ∃ w5, w5 = w4.drew := ⟨_, rfl⟩
                    have HY5 := hidden (show Y S W p X A ⟨1, xn, xk⟩ w5 F2 R ks aL cL aK cK R ks by rw [hw5]; exact HY4.out.below (Below.refl _ _).drew)
                    have hh5 : Held w5 X 29 #[.slice aL m0 cL, .slice aK k0 cK, .int .i64 (d0 : Int)] := by
                      have := HY5.out.c
                      unfold xcs at this
                      rw [← HNL.out, ← HNK.out, ← HND.out] at this
                      exact this
                    have HH5 := hidden hh5
                    refine wp_region_bigE (F := fun w' => ∃ i : Seen27 X (.slice aL m0 cL) (.slice aK k0 cK) d0, w' = i.w) (by kernel_rfl) ?_
                    change wpE _ _ _ _ _ _ _ w4.drew
                    rw [← hw5]
                    clear hw5
                    have hne : Nonempty (Seen27 X (.slice aL m0 cL) (.slice aK k0 cK) d0) := ⟨⟨w5, hh5.at_ rfl, hh5.at_ rfl, hh5.at_ rfl⟩⟩
                    refine wpE_mask (m := 11) [true,true,true,true,true,true,true,true,true,true,true,true,true,true,true,true,true,true,true,true,true,true,true,true,true,true,true,true,true,true,true,true,true,true,true,true,true,true,true,false,true,true,false,false,false,false,false,false,false,false,false,false] (by intro c a d v w h; cases d <;> exact h) (by kernel_rfl) ⟨⟨w5, hh5.at_ rfl, hh5.at_ rfl, hh5.at_ rfl⟩, rfl⟩ ?_
                    have f0 : ∀ i : Seen27 X (.slice aL m0 cL) (.slice aK k0 cK) d0, i.w.cell? ⟨X, 0, none⟩ = some (.slice aL m0 cL) := fun i => i.c0
                    have f1 : ∀ i : Seen27 X (.slice aL m0 cL) (.slice aK k0 cK) d0, i.w.cell? ⟨X, 1, none⟩ = some (.slice aK k0 cK) := fun i => i.c1
                    have f2 : ∀ i : Seen27 X (.slice aL m0 cL) (.slice aK k0 cK) d0, i.w.cell? ⟨X, 2, none⟩ = some (.int .i64 (d0 : Int)) := fun i => i.c2
                    simp only [leftOf]
                    repeat (go_big_quiet_step (fail))
                    refine wpQuiet_nil ?_
                    have hdep := depth_any HY5.out.s
                    rw [← HND.out] at hdep
                    refine wpE_one 39 (by kernel_rfl) ?_
                    simp only [List.drop_succ_cons, List.drop_zero, List.take_succ_cons, List.take_zero]
                    go_wp2_with (go_at_call 16; with_reducible refine hdep.mono ?_; rintro e w6 ⟨rfl, hw6⟩; rw [hw6]; clear hw6 w6)
                    clear hdep
                    refine And.intro ⟨⟨w5, hh5.at_ rfl, hh5.at_ rfl, hh5.at_ rfl⟩, rfl⟩ ?_
                    refine wpE_mask (m := 4) [false,false,false,false,false,false,false,false,false,false,false,false,false,false,false,false,false,false,false,false,false,false,false,false,false,false,false,false,false,false,false,false,false,false,false,false,false,false,false,false,false,false,true,true,true,true,false,true,true,false,false,false] (by intro c a d v w h; cases d <;> exact h) (by kernel_rfl) ⟨⟨w5, hh5.at_ rfl, hh5.at_ rfl, hh5.at_ rfl⟩, rfl⟩ ?_
                    simp only [leftOf]
                    repeat (go_big_quiet_step (fail))
                    refine wpQuiet_nil ?_
                    refine wpE_one 46 (by kernel_rfl) ?_
                    simp only [List.drop_succ_cons, List.drop_zero, List.take_succ_cons, List.take_zero]
                    go_wp2_with (go_at_call 18; with_reducible refine (kinds_any HY5.out.s (by have := HNK.out; omega)).mono ?_; rintro e w6 ⟨v6, rfl, hown6, hb6⟩; obtain ⟨aV, cV, rfl, _, hrV⟩ := own_rows hown6; rw [← HNK.out] at hrV ⊢)
                    have hh6 := hh5.since hb6
                    have HY6 := hidden (HY5.out.below hb6)
                    refine And.intro ⟨⟨w6, hh6.at_ rfl, hh6.at_ rfl, hh6.at_ rfl⟩, rfl⟩ ?_
                    have hsm : Calls Try.prog 17 #[.slice aV k0 cV, .slice aK k0 cK] w6 fun e w' => e = .returned (.bool true) ∧ ∃ q, w' = w6.drewN q := by
                      have h1 := HY6.out.x.kinds.rows
                      rw [← HNK.out] at h1
                      have := sameInts_any aV aK k0 k0 cV cK (nums ks) (nums ks) w6 (by omega) (by omega) hrV h1
                      rw [allEq_true (fun _ _ => rfl)] at this
                      simpa using this
                    clear hrV hown6 hb6
                    refine wpE_one 49 (by kernel_rfl) ?_
                    simp only [List.drop_succ_cons, List.drop_zero, List.take_succ_cons, List.take_zero]
                    go_wp2_with (go_at_call 17; with_reducible refine hsm.mono ?_; rintro e w7 ⟨rfl, q7, hw7⟩)
                    obtain ⟨w8, hw8⟩ : ∃ w8, w8 = w6.drewN q7 := ⟨_, rfl⟩
                    rw [← hw8]
                    have hh8 : Held w8 X 29 #[.slice aL m0 cL, .slice aK k0 cK, .int .i64 (d0 : Int)] := by rw [hw8]; exact hh6.drewN q7
                    have HY8 := hidden (show Y S W p X A ⟨1, xn, xk⟩ w8 F2 R ks aL cL aK cK R ks by rw [hw8]; exact HY6.out.below (below_drewN _ _ _))
                    clear hw8 hsm
                    refine And.intro ⟨⟨w8, hh8.at_ rfl, hh8.at_ rfl, hh8.at_ rfl⟩, rfl⟩ ?_
                    refine wpE_mask (m := 0) [false,false,false,false,false,false,false,false,false,false,false,false,false,false,false,false,false,false,false,false,false,false,false,false,false,false,false,false,false,false,false,false,false,false,false,false,false,false,false,false,false,false,false,false,false,false,false,false,false,false,true,true] (by intro c a d v w h; cases d <;> exact h) (by kernel_rfl) ⟨⟨w8, hh8.at_ rfl, hh8.at_ rfl, hh8.at_ rfl⟩, rfl⟩ ?_
                    simp only [leftOf]
                    repeat (go_big_quiet_step (fail))
                    refine wpQuiet_nil ?_
                    refine wpE_end (by kernel_rfl) ?_
                    clear f0 f1 f2 hne
                    go_wp2_with fail
                    go_roundw
                    case rel =>
                      have q1 := HNL.out
                      have q2 := HNK.out
                      have q3 := HND.out
                      exact ⟨k + 1, F2, R, ks, aL, cL, aK, cK, by omega, by go_num, by omega, by omega, by omega, hidden HY8.out.s, hidden HY8.out.x, hidden HY8.out.c, hidden HY8.out.nX, hidden HY8.out.b, hidden HY8.out.o⟩
                    case measure => simp [intOf]; omega
                · as_aux_lemma =>
                    rw [hix] at hfind
                    obtain ⟨gL, haL, _⟩ := HY.out.x.vars.va hj
                    subst haL
                    obtain ⟨sl, hsl⟩ : ∃ x, x = ((flat R).getD j default).sl := ⟨_, rfl⟩
                    obtain ⟨kd, hkd⟩ : ∃ x, x = ((flat R).getD j default).kd := ⟨_, rfl⟩
                    rw [hs2] at hs3
                    rw [← hsl] at hs1
                    rw [← hkd] at hs2 hs3
                    have HJ := hidden hj
                    have hjn : (j : Int) < (m0 : Int) := by have := HNL.out; omega
                    have HSL := hidden hsl
                    have HKD := hidden hkd
                    have HS12 := hidden (And.intro hs1 hs2)
                    have hkz : decide (kd = 0) = false := by simp; omega
                    clear hix hj hsl hkd hs1 hs2
                    go_wp2_with (go_at_call 14; with_reducible refine hfind.mono ?_; rintro e w3 ⟨rfl, hb3⟩; have a13 : w3.cell? ⟨A, 1, none⟩ = some (.string xn) := (HY.out.a.since hb3).at_ rfl)
                    have HY3 := hidden (HY.out.below hb3)
                    clear hb3 hfind
                    have hsf := find_any HY3.out.s hxn
                    rw [show told (Sees R xn) = .tuple #[.int .i64 (sl : Int), .int .i64 (kd : Int), .bool true] by unfold told; rw [HS12.out.1, HS12.out.2, hkz]; rfl] at hsf
                    go_wp2_with (go_at_call 15; with_reducible refine hsf.mono ?_; rintro e w4 ⟨rfl, hb4⟩)
                    have HY4 := hidden (HY3.out.below hb4)
                    have hj0 : decide ((0 : Int) ≤ (j : Int)) = true := by simp
                    clear hb4 hsf a13
                    obtain ⟨w5, hw5⟩ : ∃ w5, w5 = w4.drew := ⟨_, rfl⟩
                    have HY5 := hidden (show Y S W p X A ⟨1, xn, xk⟩ w5 F2 R ks (some ⟨gL, 0, none⟩) cL aK cK R ks by rw [hw5]; exact HY4.out.below (Below.refl _ _).drew)
                    have hh5 : Held w5 X 29 #[.slice (some ⟨gL, 0, none⟩) m0 cL, .slice aK k0 cK, .int .i64 (d0 : Int)] := by
                      have := HY5.out.c
                      unfold xcs at this
                      rw [← HNL.out, ← HNK.out, ← HND.out] at this
                      exact this
                    have hh52 : w5.cell? ⟨gL, j * 4 + 2, none⟩ = some (.int .i64 (sl : Int)) := by
                      obtain ⟨g', hg', _, _, _, y2, _⟩ := HY5.out.x.vars.va HJ.out
                      injection hg' with hg'; injection hg' with hg'; subst hg'
                      rw [y2, HSL.out]
                    have hh53 : w5.cell? ⟨gL, j * 4 + 3, none⟩ = some (.int .i64 (kd : Int)) := by
                      obtain ⟨g', hg', _, _, _, _, y3⟩ := HY5.out.x.vars.va HJ.out
                      injection hg' with hg'; injection hg' with hg'; subst hg'
                      rw [y3, HKD.out]
                    have HH5 := hidden hh5
                    refine wp_region_bigE (F := fun w' => ∃ i : Seen28 X gL (j * 4) (.slice (some ⟨gL, 0, none⟩) m0 cL) (.slice aK k0 cK) d0 sl kd, w' = i.w) (by kernel_rfl) ?_
                    change wpE _ _ _ _ _ _ _ w4.drew
                    rw [← hw5]
                    clear hw5
                    have hne : Nonempty (Seen28 X gL (j * 4) (.slice (some ⟨gL, 0, none⟩) m0 cL) (.slice aK k0 cK) d0 sl kd) := ⟨⟨w5, hh5.at_ rfl, hh5.at_ rfl, hh5.at_ rfl, hh52, hh53⟩⟩
                    refine wpE_mask (m := 11) [true,true,true,true,true,true,true,true,true,true,true,true,true,true,true,true,true,true,true,true,true,true,true,true,true,true,true,true,true,true,true,true,true,true,true,true,true,true,true,false,true,true,false,false,false,false,false,false,false,false,false,false] (by intro c a d v w h; cases d <;> exact h) (by kernel_rfl) ⟨⟨w5, hh5.at_ rfl, hh5.at_ rfl, hh5.at_ rfl, hh52, hh53⟩, rfl⟩ ?_
                    have f0 : ∀ i : Seen28 X gL (j * 4) (.slice (some ⟨gL, 0, none⟩) m0 cL) (.slice aK k0 cK) d0 sl kd, i.w.cell? ⟨X, 0, none⟩ = some (.slice (some ⟨gL, 0, none⟩) m0 cL) := fun i => i.c0
                    have f1 : ∀ i : Seen28 X gL (j * 4) (.slice (some ⟨gL, 0, none⟩) m0 cL) (.slice aK k0 cK) d0 sl kd, i.w.cell? ⟨X, 1, none⟩ = some (.slice aK k0 cK) := fun i => i.c1
                    have f2 : ∀ i : Seen28 X gL (j * 4) (.slice (some ⟨gL, 0, none⟩) m0 cL) (.slice aK k0 cK) d0 sl kd, i.w.cell? ⟨X, 2, none⟩ = some (.int .i64 (d0 : Int)) := fun i => i.c2
                    have f3 : ∀ i : Seen28 X gL (j * 4) (.slice (some ⟨gL, 0, none⟩) m0 cL) (.slice aK k0 cK) d0 sl kd, i.w.cell? ⟨gL, j * 4 + 2, none⟩ = some (.int .i64 (sl : Int)) := fun i => i.y2
                    have f4 : ∀ i : Seen28 X gL (j * 4) (.slice (some ⟨gL, 0, none⟩) m0 cL) (.slice aK k0 cK) d0 sl kd, i.w.cell? ⟨gL, j * 4 + 3, none⟩ = some (.int .i64 (kd : Int)) := fun i => i.y3
                    simp only [leftOf]
                    repeat (go_big_quiet_step (fail))
                    refine wpQuiet_nil ?_
                    have hdep := depth_any HY5.out.s
                    rw [← HND.out] at hdep
                    refine wpE_one 39 (by kernel_rfl) ?_
                    simp only [List.drop_succ_cons, List.drop_zero, List.take_succ_cons, List.take_zero]
                    go_wp2_with (go_at_call 16; with_reducible refine hdep.mono ?_; rintro e w6 ⟨rfl, hw6⟩; rw [hw6]; clear hw6 w6)
                    clear hdep
                    refine And.intro ⟨⟨w5, hh5.at_ rfl, hh5.at_ rfl, hh5.at_ rfl, hh52, hh53⟩, rfl⟩ ?_
                    refine wpE_mask (m := 4) [false,false,false,false,false,false,false,false,false,false,false,false,false,false,false,false,false,false,false,false,false,false,false,false,false,false,false,false,false,false,false,false,false,false,false,false,false,false,false,false,false,false,true,true,true,true,false,true,true,false,false,false] (by intro c a d v w h; cases d <;> exact h) (by kernel_rfl) ⟨⟨w5, hh5.at_ rfl, hh5.at_ rfl, hh5.at_ rfl, hh52, hh53⟩, rfl⟩ ?_
                    simp only [leftOf]
                    repeat (go_big_quiet_step (fail))
                    refine wpQuiet_nil ?_
                    refine wpE_one 46 (by kernel_rfl) ?_
                    simp only [List.drop_succ_cons, List.drop_zero, List.take_succ_cons, List.take_zero]
                    go_wp2_with (go_at_call 18; with_reducible refine (kinds_any HY5.out.s (by have := HNK.out; omega)).mono ?_; rintro e w6 ⟨v6, rfl, hown6, hb6⟩; obtain ⟨aV, cV, rfl, _, hrV⟩ := own_rows hown6; rw [← HNK.out] at hrV ⊢)
                    have hh6 := hh5.since hb6
                    have hh62 := (cell_since hb6 hh52)
                    have hh63 := (cell_since hb6 hh53)
                    have HY6 := hidden (HY5.out.below hb6)
                    refine And.intro ⟨⟨w6, hh6.at_ rfl, hh6.at_ rfl, hh6.at_ rfl, hh62, hh63⟩, rfl⟩ ?_
                    have hsm : Calls Try.prog 17 #[.slice aV k0 cV, .slice aK k0 cK] w6 fun e w' => e = .returned (.bool true) ∧ ∃ q, w' = w6.drewN q := by
                      have h1 := HY6.out.x.kinds.rows
                      rw [← HNK.out] at h1
                      have := sameInts_any aV aK k0 k0 cV cK (nums ks) (nums ks) w6 (by omega) (by omega) hrV h1
                      rw [allEq_true (fun _ _ => rfl)] at this
                      simpa using this
                    clear hrV hown6 hb6
                    refine wpE_one 49 (by kernel_rfl) ?_
                    simp only [List.drop_succ_cons, List.drop_zero, List.take_succ_cons, List.take_zero]
                    go_wp2_with (go_at_call 17; with_reducible refine hsm.mono ?_; rintro e w7 ⟨rfl, q7, hw7⟩)
                    obtain ⟨w8, hw8⟩ : ∃ w8, w8 = w6.drewN q7 := ⟨_, rfl⟩
                    rw [← hw8]
                    have hh8 : Held w8 X 29 #[.slice (some ⟨gL, 0, none⟩) m0 cL, .slice aK k0 cK, .int .i64 (d0 : Int)] := by rw [hw8]; exact hh6.drewN q7
                    have hh82 : w8.cell? ⟨gL, j * 4 + 2, none⟩ = some (.int .i64 (sl : Int)) := by rw [hw8]; exact hh62
                    have hh83 : w8.cell? ⟨gL, j * 4 + 3, none⟩ = some (.int .i64 (kd : Int)) := by rw [hw8]; exact hh63
                    have HY8 := hidden (show Y S W p X A ⟨1, xn, xk⟩ w8 F2 R ks (some ⟨gL, 0, none⟩) cL aK cK R ks by rw [hw8]; exact HY6.out.below (below_drewN _ _ _))
                    clear hw8 hsm
                    refine And.intro ⟨⟨w8, hh8.at_ rfl, hh8.at_ rfl, hh8.at_ rfl, hh82, hh83⟩, rfl⟩ ?_
                    refine wpE_mask (m := 0) [false,false,false,false,false,false,false,false,false,false,false,false,false,false,false,false,false,false,false,false,false,false,false,false,false,false,false,false,false,false,false,false,false,false,false,false,false,false,false,false,false,false,false,false,false,false,false,false,false,false,true,true] (by intro c a d v w h; cases d <;> exact h) (by kernel_rfl) ⟨⟨w8, hh8.at_ rfl, hh8.at_ rfl, hh8.at_ rfl, hh82, hh83⟩, rfl⟩ ?_
                    simp only [leftOf]
                    repeat (go_big_quiet_step (fail))
                    refine wpQuiet_nil ?_
                    refine wpE_end (by kernel_rfl) ?_
                    clear f0 f1 f2 hne
                    go_wp2_with fail
                    go_roundw
                    case rel =>
                      have q1 := HNL.out
                      have q2 := HNK.out
                      have q3 := HND.out
                      exact ⟨k + 1, F2, R, ks, (some ⟨gL, 0, none⟩), cL, aK, cK, by omega, by go_num, by omega, by omega, by omega, hidden HY8.out.s, hidden HY8.out.x, hidden HY8.out.c, hidden HY8.out.nX, hidden HY8.out.b, hidden HY8.out.o⟩
                    case measure => simp [intOf]; omega
            · by_cases hd2 : xd = 2
              · cases hmb : may R xn xk with
                | true =>
                  subst hd2
                  obtain ⟨⟨R2, k2⟩, hDD⟩ : ∃ z, z = declared R ks xn xk := ⟨_, rfl⟩
                  obtain ⟨nl, hnl⟩ : ∃ m, m = (flat R2).length := ⟨_, rfl⟩
                  obtain ⟨nk, hnk⟩ : ∃ m, m = k2.length := ⟨_, rfl⟩
                  obtain ⟨nd, hnd⟩ : ∃ m, m = R2.length := ⟨_, rfl⟩
                  have hlen := declared_length R ks xn xk
                  have hfl := flat_declared R ks xn xk
                  rw [← hDD] at hlen hfl
                  have hnlb : nl ≤ k + 1 := by have := HM0.out; simp only at hfl; omega
                  have hnkb : nk ≤ k + 1 := by have := HK0.out; simp only at hlen; omega
                  have hndb : nd ≤ k + 1 := by have := HD0.out; simp only at hlen; omega
                  have hrd : Calls Try.prog 12 #[.agg #[.slice aL m0 cL, .slice aK k0 cK, .int .i64 (d0 : Int)], .string xn, .int .i64 xk] w1 fun e w' => ∃ aL2 cL2 aK2 cK2, e = .returned (.tuple #[.agg #[.slice aL2 nl cL2, .slice aK2 nk cK2, .int .i64 (nd : Int)], .bool true]) ∧ IsX w' (fun g => Free F' X g ∨ w1.heap.size ≤ g) aL2 cL2 aK2 cK2 R2 k2 ∧ Below w1.heap.size w1 w' := by
                    have := rdeclare_any HY1.out.x xn xk HY1.out.s.some_ (by have := HM0.out; omega) (by have := HD0.out; omega) (by have := HK0.out; omega)
                    unfold xval at this
                    rw [← HM0.out, ← HK0.out, ← HD0.out, ← hDD, hmb] at this
                    simp only at this
                    rw [← hnl, ← hnk, ← hnd] at this
                    exact this
                  have HNL := hidden hnl
                  have HNK := hidden hnk
                  have HND := hidden hnd
                  have HDD := hidden hDD
                  have HMB := hidden hmb
                  clear hnl hnk hnd hDD hlen hfl hmb
                  go_wp2_with fail
                  rw [show wr.alloc (.cells #[.int .i64 2, .string xn, .int .i64 xk] 32) = w1 from HWW.out.symm, ← HAA.out]
                  clear xa0 xa1 xa2 z0 z1 z2
                  go_wp2_with (go_at_call 12; with_reducible refine hrd.mono ?_; rintro e w2 ⟨aL2, cL2, aK2, cK2, rfl, hX2, hb2⟩; have HY2 := hidden (HY1.out.below hb2); have hy3 : Y S W p X A ⟨2, xn, xk⟩ (w2.alloc (.cells #[.slice aL2 nl cL2, .slice aK2 nk cK2, .int .i64 (nd : Int)] 29)) F' R ks aL cL aK cK R ks := HY2.out.below ((Below.refl _ _).alloc (Nat.le_refl _) _); have u1 : (w2.alloc (.cells #[.slice aL2 nl cL2, .slice aK2 nk cK2, .int .i64 (nd : Int)] 29)).cell? ⟨A, 1, none⟩ = some (.string xn) := hy3.a.at_ rfl; have u2 : (w2.alloc (.cells #[.slice aL2 nl cL2, .slice aK2 nk cK2, .int .i64 (nd : Int)] 29)).cell? ⟨A, 2, none⟩ = some (.int .i64 xk) := hy3.a.at_ rfl)
                  obtain ⟨B8, hB8⟩ : ∃ B, B = w2.heap.size := ⟨_, rfl⟩
                  obtain ⟨w3, hw3⟩ : ∃ w3, w3 = w2.alloc (.cells #[.slice aL2 nl cL2, .slice aK2 nk cK2, .int .i64 (nd : Int)] 29) := ⟨_, rfl⟩
                  rw [← hw3, ← hB8]
                  rw [← hw3] at hy3
                  have HY3 := hidden hy3
                  have HX3 := hidden (show IsX w3 (Free F' X) aL2 cL2 aK2 cK2 R2 k2 by rw [hw3]; exact (HY1.out.news hX2).below ((Below.refl _ _).alloc (Nat.le_refl _) _))
                  have H8 := hidden (show Held w3 B8 29 #[.slice aL2 nl cL2, .slice aK2 nk cK2, .int .i64 (nd : Int)] by rw [hw3, hB8]; exact Held.new _ _ _)
                  have N8 := hidden (show ¬ F' B8 from fun h => by have := HY2.out.s.lt _ h; omega)
                  clear u1 u2 hy3 hw3 hB8 hX2 hb2 hrd
                  have hde : Calls Try.prog 13 #[.pointer (some ⟨p, 0, none⟩), .string xn, .int .i64 xk] w3 fun e w' => e = .returned (.tuple #[.int .i64 (k0 : Int), .bool true]) ∧ ∃ F2, IsS w' p F2 R2 k2 ∧ Tn F' w3 w' ∧ Grew F' F2 w3 := by
                    have := declare_any HY3.out.s HXN.out xk (by have := HD0.out; omega) (by have := HK0.out; omega)
                    unfold slotOf at this
                    rw [HMB.out, ← HDD.out, ← HK0.out] at this
                    exact this
                  go_wp2_with (go_at_call 13; with_reducible refine hde.mono ?_; rintro e w4 ⟨rfl, F2, hS4, hT4, hG4⟩; have HY4 := hidden (HY3.out.sOp hS4 hT4 hG4); have h8 := (H8.out.sOp N8.out hT4 hG4).1; have v0 : w4.cell? ⟨B8, 0, none⟩ = some (.slice aL2 nl cL2) := h8.at_ rfl; have v1 : w4.cell? ⟨B8, 1, none⟩ = some (.slice aK2 nk cK2) := h8.at_ rfl; have v2 : w4.cell? ⟨B8, 2, none⟩ = some (.int .i64 (nd : Int)) := h8.at_ rfl; have hc4 : Held w4 X 29 #[.slice aL m0 cL, .slice aK k0 cK, .int .i64 (d0 : Int)] := xcs_is HY4.out.c HM0.out HK0.out HD0.out; have b40 : w4.cell? ⟨X, 0, none⟩ = some (.slice aL m0 cL) := hc4.at_ rfl; have b41 : w4.cell? ⟨X, 1, none⟩ = some (.slice aK k0 cK) := hc4.at_ rfl; have b42 : w4.cell? ⟨X, 2, none⟩ = some (.int .i64 (d0 : Int)) := hc4.at_ rfl; have ba41 : w4.cell? ⟨A, 1, none⟩ = some (.string xn) := HY4.out.a.at_ rfl; have ba42 : w4.cell? ⟨A, 2, none⟩ = some (.int .i64 xk) := HY4.out.a.at_ rfl; have f40 := hc4.frozen 0; have f41 := hc4.frozen 1; have f42 := hc4.frozen 2)
                  obtain ⟨wz, hwz⟩ : ∃ wz, wz = ((w4.setCell ⟨X, 0, none⟩ (.slice aL2 nl cL2)).setCell ⟨X, 1, none⟩ (.slice aK2 nk cK2)).setCell ⟨X, 2, none⟩ (.int .i64 (nd : Int)) := ⟨_, rfl⟩
                  have hcz : Held wz X 29 (xcs aL2 cL2 aK2 cK2 R2 k2) := by
                    unfold xcs
                    rw [hwz, ← HNL.out, ← HNK.out, ← HND.out]
                    exact ((hc4.set 0 _).set 1 _).set 2 _
                  have HY := hidden (HY4.out.put (HX3.out.sOp hT4 hG4) (show w4.grownBy wz (some X) by rw [hwz]; exact grown_three (grown_setCell _ _ _ _) (grown_setCell _ _ _ _) (grown_setCell _ _ _ _)) hcz)
                  rw [← hwz]
                  clear hwz hcz hS4 hT4 hG4 h8 v0 v1 v2 hde
                  clear hc4 b40 b41 b42 ba41 ba42 f40 f41 f42
                  have hxn : xn.size ≤ maxLen := HXN.out
                  have hfind : Calls Try.prog 14 #[.agg #[.slice aL2 nl cL2, .slice aK2 nk cK2, .int .i64 (nd : Int)], .string xn] wz fun e w' => e = .returned (.int .i64 (ix (flat R2) xn (flat R2).length)) ∧ Below wz.heap.size wz w' := by
                    have := rfind_any HY.out.x xn (by have := HNL.out; omega)
                    unfold xval at this
                    rw [← HNK.out, ← HND.out] at this
                    rw [HNL.out]
                    exact this
                  rcases found R2 xn HY.out.s.fine with ⟨hix, hse⟩ | ⟨j, hj, hix, hs1, hs2, hs3⟩
                  · as_aux_lemma =>
                      rw [hix] at hfind
                      have HSE := hidden hse
                      clear hix hse
                      go_wp2_with (go_at_call 14; with_reducible refine hfind.mono ?_; rintro e w3 ⟨rfl, hb3⟩; have a13 : w3.cell? ⟨A, 1, none⟩ = some (.string xn) := (HY.out.a.since hb3).at_ rfl)
                      have HY3 := hidden (HY.out.below hb3)
                      clear hb3 hfind
                      have hsf := find_any HY3.out.s hxn
                      rw [HSE.out, show told (0, 0, 0) = .tuple #[.int .i64 0, .int .i64 0, .bool false] from rfl] at hsf
                      go_wp2_with (go_at_call 15; with_reducible refine hsf.mono ?_; rintro e w4 ⟨rfl, hb4⟩)
                      have HY4 := hidden (HY3.out.below hb4)
                      clear hb4 hsf a13
                      obtain ⟨w5, hw5⟩ : ∃ w5, w5 = w4.drew := ⟨_, rfl⟩
                      have HY5 := hidden (show Y S W p X A ⟨2, xn, xk⟩ w5 F2 R2 k2 aL2 cL2 aK2 cK2 R2 k2 by rw [hw5]; exact HY4.out.below (Below.refl _ _).drew)
                      have hh5 : Held w5 X 29 #[.slice aL2 nl cL2, .slice aK2 nk cK2, .int .i64 (nd : Int)] := by
                        have := HY5.out.c
                        unfold xcs at this
                        rw [← HNL.out, ← HNK.out, ← HND.out] at this
                        exact this
                      have HH5 := hidden hh5
                      refine wp_region_bigE (F := fun w' => ∃ i : Seen27 X (.slice aL2 nl cL2) (.slice aK2 nk cK2) nd, w' = i.w) (by kernel_rfl) ?_
                      change wpE _ _ _ _ _ _ _ w4.drew
                      rw [← hw5]
                      clear hw5
                      have hne : Nonempty (Seen27 X (.slice aL2 nl cL2) (.slice aK2 nk cK2) nd) := ⟨⟨w5, hh5.at_ rfl, hh5.at_ rfl, hh5.at_ rfl⟩⟩
                      refine wpE_mask (m := 11) [true,true,true,true,true,true,true,true,true,true,true,true,true,true,true,true,true,true,true,true,true,true,true,true,true,true,true,true,true,true,true,true,true,true,true,true,true,true,true,false,true,true,false,false,false,false,false,false,false,false,false,false] (by intro c a d v w h; cases d <;> exact h) (by kernel_rfl) ⟨⟨w5, hh5.at_ rfl, hh5.at_ rfl, hh5.at_ rfl⟩, rfl⟩ ?_
                      have f0 : ∀ i : Seen27 X (.slice aL2 nl cL2) (.slice aK2 nk cK2) nd, i.w.cell? ⟨X, 0, none⟩ = some (.slice aL2 nl cL2) := fun i => i.c0
                      have f1 : ∀ i : Seen27 X (.slice aL2 nl cL2) (.slice aK2 nk cK2) nd, i.w.cell? ⟨X, 1, none⟩ = some (.slice aK2 nk cK2) := fun i => i.c1
                      have f2 : ∀ i : Seen27 X (.slice aL2 nl cL2) (.slice aK2 nk cK2) nd, i.w.cell? ⟨X, 2, none⟩ = some (.int .i64 (nd : Int)) := fun i => i.c2
                      simp only [leftOf]
                      repeat (go_big_quiet_step (fail))
                      refine wpQuiet_nil ?_
                      have hdep := depth_any HY5.out.s
                      rw [← HND.out] at hdep
                      refine wpE_one 39 (by kernel_rfl) ?_
                      simp only [List.drop_succ_cons, List.drop_zero, List.take_succ_cons, List.take_zero]
                      go_wp2_with (go_at_call 16; with_reducible refine hdep.mono ?_; rintro e w6 ⟨rfl, hw6⟩; rw [hw6]; clear hw6 w6)
                      clear hdep
                      refine And.intro ⟨⟨w5, hh5.at_ rfl, hh5.at_ rfl, hh5.at_ rfl⟩, rfl⟩ ?_
                      refine wpE_mask (m := 4) [false,false,false,false,false,false,false,false,false,false,false,false,false,false,false,false,false,false,false,false,false,false,false,false,false,false,false,false,false,false,false,false,false,false,false,false,false,false,false,false,false,false,true,true,true,true,false,true,true,false,false,false] (by intro c a d v w h; cases d <;> exact h) (by kernel_rfl) ⟨⟨w5, hh5.at_ rfl, hh5.at_ rfl, hh5.at_ rfl⟩, rfl⟩ ?_
                      simp only [leftOf]
                      repeat (go_big_quiet_step (fail))
                      refine wpQuiet_nil ?_
                      refine wpE_one 46 (by kernel_rfl) ?_
                      simp only [List.drop_succ_cons, List.drop_zero, List.take_succ_cons, List.take_zero]
                      go_wp2_with (go_at_call 18; with_reducible refine (kinds_any HY5.out.s (by have := HNK.out; omega)).mono ?_; rintro e w6 ⟨v6, rfl, hown6, hb6⟩; obtain ⟨aV, cV, rfl, _, hrV⟩ := own_rows hown6; rw [← HNK.out] at hrV ⊢)
                      have hh6 := hh5.since hb6
                      have HY6 := hidden (HY5.out.below hb6)
                      refine And.intro ⟨⟨w6, hh6.at_ rfl, hh6.at_ rfl, hh6.at_ rfl⟩, rfl⟩ ?_
                      have hsm : Calls Try.prog 17 #[.slice aV nk cV, .slice aK2 nk cK2] w6 fun e w' => e = .returned (.bool true) ∧ ∃ q, w' = w6.drewN q := by
                        have h1 := HY6.out.x.kinds.rows
                        rw [← HNK.out] at h1
                        have := sameInts_any aV aK2 nk nk cV cK2 (nums k2) (nums k2) w6 (by omega) (by omega) hrV h1
                        rw [allEq_true (fun _ _ => rfl)] at this
                        simpa using this
                      clear hrV hown6 hb6
                      refine wpE_one 49 (by kernel_rfl) ?_
                      simp only [List.drop_succ_cons, List.drop_zero, List.take_succ_cons, List.take_zero]
                      go_wp2_with (go_at_call 17; with_reducible refine hsm.mono ?_; rintro e w7 ⟨rfl, q7, hw7⟩)
                      obtain ⟨w8, hw8⟩ : ∃ w8, w8 = w6.drewN q7 := ⟨_, rfl⟩
                      rw [← hw8]
                      have hh8 : Held w8 X 29 #[.slice aL2 nl cL2, .slice aK2 nk cK2, .int .i64 (nd : Int)] := by rw [hw8]; exact hh6.drewN q7
                      have HY8 := hidden (show Y S W p X A ⟨2, xn, xk⟩ w8 F2 R2 k2 aL2 cL2 aK2 cK2 R2 k2 by rw [hw8]; exact HY6.out.below (below_drewN _ _ _))
                      clear hw8 hsm
                      refine And.intro ⟨⟨w8, hh8.at_ rfl, hh8.at_ rfl, hh8.at_ rfl⟩, rfl⟩ ?_
                      refine wpE_mask (m := 0) [false,false,false,false,false,false,false,false,false,false,false,false,false,false,false,false,false,false,false,false,false,false,false,false,false,false,false,false,false,false,false,false,false,false,false,false,false,false,false,false,false,false,false,false,false,false,false,false,false,false,true,true] (by intro c a d v w h; cases d <;> exact h) (by kernel_rfl) ⟨⟨w8, hh8.at_ rfl, hh8.at_ rfl, hh8.at_ rfl⟩, rfl⟩ ?_
                      simp only [leftOf]
                      repeat (go_big_quiet_step (fail))
                      refine wpQuiet_nil ?_
                      refine wpE_end (by kernel_rfl) ?_
                      clear f0 f1 f2 hne
                      go_wp2_with fail
                      go_roundw
                      case rel =>
                        have q1 := HNL.out
                        have q2 := HNK.out
                        have q3 := HND.out
                        exact ⟨k + 1, F2, R2, k2, aL2, cL2, aK2, cK2, by omega, by go_num, by omega, by omega, by omega, hidden HY8.out.s, hidden HY8.out.x, hidden HY8.out.c, hidden HY8.out.nX, hidden HY8.out.b, hidden HY8.out.o⟩
                      case measure => simp [intOf]; omega
                  · as_aux_lemma =>
                      rw [hix] at hfind
                      obtain ⟨gL, haL, _⟩ := HY.out.x.vars.va hj
                      subst haL
                      obtain ⟨sl, hsl⟩ : ∃ x, x = ((flat R2).getD j default).sl := ⟨_, rfl⟩
                      obtain ⟨kd, hkd⟩ : ∃ x, x = ((flat R2).getD j default).kd := ⟨_, rfl⟩
                      rw [hs2] at hs3
                      rw [← hsl] at hs1
                      rw [← hkd] at hs2 hs3
                      have HJ := hidden hj
                      have hjn : (j : Int) < (nl : Int) := by have := HNL.out; omega
                      have HSL := hidden hsl
                      have HKD := hidden hkd
                      have HS12 := hidden (And.intro hs1 hs2)
                      have hkz : decide (kd = 0) = false := by simp; omega
                      clear hix hj hsl hkd hs1 hs2
                      go_wp2_with (go_at_call 14; with_reducible refine hfind.mono ?_; rintro e w3 ⟨rfl, hb3⟩; have a13 : w3.cell? ⟨A, 1, none⟩ = some (.string xn) := (HY.out.a.since hb3).at_ rfl)
                      have HY3 := hidden (HY.out.below hb3)
                      clear hb3 hfind
                      have hsf := find_any HY3.out.s hxn
                      rw [show told (Sees R2 xn) = .tuple #[.int .i64 (sl : Int), .int .i64 (kd : Int), .bool true] by unfold told; rw [HS12.out.1, HS12.out.2, hkz]; rfl] at hsf
                      go_wp2_with (go_at_call 15; with_reducible refine hsf.mono ?_; rintro e w4 ⟨rfl, hb4⟩)
                      have HY4 := hidden (HY3.out.below hb4)
                      have hj0 : decide ((0 : Int) ≤ (j : Int)) = true := by simp
                      clear hb4 hsf a13
                      obtain ⟨w5, hw5⟩ : ∃ w5, w5 = w4.drew := ⟨_, rfl⟩
                      have HY5 := hidden (show Y S W p X A ⟨2, xn, xk⟩ w5 F2 R2 k2 (some ⟨gL, 0, none⟩) cL2 aK2 cK2 R2 k2 by rw [hw5]; exact HY4.out.below (Below.refl _ _).drew)
                      have hh5 : Held w5 X 29 #[.slice (some ⟨gL, 0, none⟩) nl cL2, .slice aK2 nk cK2, .int .i64 (nd : Int)] := by
                        have := HY5.out.c
                        unfold xcs at this
                        rw [← HNL.out, ← HNK.out, ← HND.out] at this
                        exact this
                      have hh52 : w5.cell? ⟨gL, j * 4 + 2, none⟩ = some (.int .i64 (sl : Int)) := by
                        obtain ⟨g', hg', _, _, _, y2, _⟩ := HY5.out.x.vars.va HJ.out
                        injection hg' with hg'; injection hg' with hg'; subst hg'
                        rw [y2, HSL.out]
                      have hh53 : w5.cell? ⟨gL, j * 4 + 3, none⟩ = some (.int .i64 (kd : Int)) := by
                        obtain ⟨g', hg', _, _, _, _, y3⟩ := HY5.out.x.vars.va HJ.out
                        injection hg' with hg'; injection hg' with hg'; subst hg'
                        rw [y3, HKD.out]
                      have HH5 := hidden hh5
                      refine wp_region_bigE (F := fun w' => ∃ i : Seen28 X gL (j * 4) (.slice (some ⟨gL, 0, none⟩) nl cL2) (.slice aK2 nk cK2) nd sl kd, w' = i.w) (by kernel_rfl) ?_
                      change wpE _ _ _ _ _ _ _ w4.drew
                      rw [← hw5]
                      clear hw5
                      have hne : Nonempty (Seen28 X gL (j * 4) (.slice (some ⟨gL, 0, none⟩) nl cL2) (.slice aK2 nk cK2) nd sl kd) := ⟨⟨w5, hh5.at_ rfl, hh5.at_ rfl, hh5.at_ rfl, hh52, hh53⟩⟩
                      refine wpE_mask (m := 11) [true,true,true,true,true,true,true,true,true,true,true,true,true,true,true,true,true,true,true,true,true,true,true,true,true,true,true,true,true,true,true,true,true,true,true,true,true,true,true,false,true,true,false,false,false,false,false,false,false,false,false,false] (by intro c a d v w h; cases d <;> exact h) (by kernel_rfl) ⟨⟨w5, hh5.at_ rfl, hh5.at_ rfl, hh5.at_ rfl, hh52, hh53⟩, rfl⟩ ?_
                      have f0 : ∀ i : Seen28 X gL (j * 4) (.slice (some ⟨gL, 0, none⟩) nl cL2) (.slice aK2 nk cK2) nd sl kd, i.w.cell? ⟨X, 0, none⟩ = some (.slice (some ⟨gL, 0, none⟩) nl cL2) := fun i => i.c0
                      have f1 : ∀ i : Seen28 X gL (j * 4) (.slice (some ⟨gL, 0, none⟩) nl cL2) (.slice aK2 nk cK2) nd sl kd, i.w.cell? ⟨X, 1, none⟩ = some (.slice aK2 nk cK2) := fun i => i.c1
                      have f2 : ∀ i : Seen28 X gL (j * 4) (.slice (some ⟨gL, 0, none⟩) nl cL2) (.slice aK2 nk cK2) nd sl kd, i.w.cell? ⟨X, 2, none⟩ = some (.int .i64 (nd : Int)) := fun i => i.c2
                      have f3 : ∀ i : Seen28 X gL (j * 4) (.slice (some ⟨gL, 0, none⟩) nl cL2) (.slice aK2 nk cK2) nd sl kd, i.w.cell? ⟨gL, j * 4 + 2, none⟩ = some (.int .i64 (sl : Int)) := fun i => i.y2
                      have f4 : ∀ i : Seen28 X gL (j * 4) (.slice (some ⟨gL, 0, none⟩) nl cL2) (.slice aK2 nk cK2) nd sl kd, i.w.cell? ⟨gL, j * 4 + 3, none⟩ = some (.int .i64 (kd : Int)) := fun i => i.y3
                      simp only [leftOf]
                      repeat (go_big_quiet_step (fail))
                      refine wpQuiet_nil ?_
                      have hdep := depth_any HY5.out.s
                      rw [← HND.out] at hdep
                      refine wpE_one 39 (by kernel_rfl) ?_
                      simp only [List.drop_succ_cons, List.drop_zero, List.take_succ_cons, List.take_zero]
                      go_wp2_with (go_at_call 16; with_reducible refine hdep.mono ?_; rintro e w6 ⟨rfl, hw6⟩; rw [hw6]; clear hw6 w6)
                      clear hdep
                      refine And.intro ⟨⟨w5, hh5.at_ rfl, hh5.at_ rfl, hh5.at_ rfl, hh52, hh53⟩, rfl⟩ ?_
                      refine wpE_mask (m := 4) [false,false,false,false,false,false,false,false,false,false,false,false,false,false,false,false,false,false,false,false,false,false,false,false,false,false,false,false,false,false,false,false,false,false,false,false,false,false,false,false,false,false,true,true,true,true,false,true,true,false,false,false] (by intro c a d v w h; cases d <;> exact h) (by kernel_rfl) ⟨⟨w5, hh5.at_ rfl, hh5.at_ rfl, hh5.at_ rfl, hh52, hh53⟩, rfl⟩ ?_
                      simp only [leftOf]
                      repeat (go_big_quiet_step (fail))
                      refine wpQuiet_nil ?_
                      refine wpE_one 46 (by kernel_rfl) ?_
                      simp only [List.drop_succ_cons, List.drop_zero, List.take_succ_cons, List.take_zero]
                      go_wp2_with (go_at_call 18; with_reducible refine (kinds_any HY5.out.s (by have := HNK.out; omega)).mono ?_; rintro e w6 ⟨v6, rfl, hown6, hb6⟩; obtain ⟨aV, cV, rfl, _, hrV⟩ := own_rows hown6; rw [← HNK.out] at hrV ⊢)
                      have hh6 := hh5.since hb6
                      have hh62 := (cell_since hb6 hh52)
                      have hh63 := (cell_since hb6 hh53)
                      have HY6 := hidden (HY5.out.below hb6)
                      refine And.intro ⟨⟨w6, hh6.at_ rfl, hh6.at_ rfl, hh6.at_ rfl, hh62, hh63⟩, rfl⟩ ?_
                      have hsm : Calls Try.prog 17 #[.slice aV nk cV, .slice aK2 nk cK2] w6 fun e w' => e = .returned (.bool true) ∧ ∃ q, w' = w6.drewN q := by
                        have h1 := HY6.out.x.kinds.rows
                        rw [← HNK.out] at h1
                        have := sameInts_any aV aK2 nk nk cV cK2 (nums k2) (nums k2) w6 (by omega) (by omega) hrV h1
                        rw [allEq_true (fun _ _ => rfl)] at this
                        simpa using this
                      clear hrV hown6 hb6
                      refine wpE_one 49 (by kernel_rfl) ?_
                      simp only [List.drop_succ_cons, List.drop_zero, List.take_succ_cons, List.take_zero]
                      go_wp2_with (go_at_call 17; with_reducible refine hsm.mono ?_; rintro e w7 ⟨rfl, q7, hw7⟩)
                      obtain ⟨w8, hw8⟩ : ∃ w8, w8 = w6.drewN q7 := ⟨_, rfl⟩
                      rw [← hw8]
                      have hh8 : Held w8 X 29 #[.slice (some ⟨gL, 0, none⟩) nl cL2, .slice aK2 nk cK2, .int .i64 (nd : Int)] := by rw [hw8]; exact hh6.drewN q7
                      have hh82 : w8.cell? ⟨gL, j * 4 + 2, none⟩ = some (.int .i64 (sl : Int)) := by rw [hw8]; exact hh62
                      have hh83 : w8.cell? ⟨gL, j * 4 + 3, none⟩ = some (.int .i64 (kd : Int)) := by rw [hw8]; exact hh63
                      have HY8 := hidden (show Y S W p X A ⟨2, xn, xk⟩ w8 F2 R2 k2 (some ⟨gL, 0, none⟩) cL2 aK2 cK2 R2 k2 by rw [hw8]; exact HY6.out.below (below_drewN _ _ _))
                      clear hw8 hsm
                      refine And.intro ⟨⟨w8, hh8.at_ rfl, hh8.at_ rfl, hh8.at_ rfl, hh82, hh83⟩, rfl⟩ ?_
                      refine wpE_mask (m := 0) [false,false,false,false,false,false,false,false,false,false,false,false,false,false,false,false,false,false,false,false,false,false,false,false,false,false,false,false,false,false,false,false,false,false,false,false,false,false,false,false,false,false,false,false,false,false,false,false,false,false,true,true] (by intro c a d v w h; cases d <;> exact h) (by kernel_rfl) ⟨⟨w8, hh8.at_ rfl, hh8.at_ rfl, hh8.at_ rfl, hh82, hh83⟩, rfl⟩ ?_
                      simp only [leftOf]
                      repeat (go_big_quiet_step (fail))
                      refine wpQuiet_nil ?_
                      refine wpE_end (by kernel_rfl) ?_
                      clear f0 f1 f2 hne
                      go_wp2_with fail
                      go_roundw
                      case rel =>
                        have q1 := HNL.out
                        have q2 := HNK.out
                        have q3 := HND.out
                        exact ⟨k + 1, F2, R2, k2, (some ⟨gL, 0, none⟩), cL2, aK2, cK2, by omega, by go_num, by omega, by omega, by omega, hidden HY8.out.s, hidden HY8.out.x, hidden HY8.out.c, hidden HY8.out.nX, hidden HY8.out.b, hidden HY8.out.o⟩
                      case measure => simp [intOf]; omega
                | false =>
                  subst hd2
                  obtain ⟨⟨R2, k2⟩, hDD⟩ : ∃ z, z = declared R ks xn xk := ⟨_, rfl⟩
                  obtain ⟨nl, hnl⟩ : ∃ m, m = (flat R2).length := ⟨_, rfl⟩
                  obtain ⟨nk, hnk⟩ : ∃ m, m = k2.length := ⟨_, rfl⟩
                  obtain ⟨nd, hnd⟩ : ∃ m, m = R2.length := ⟨_, rfl⟩
                  have hlen := declared_length R ks xn xk
                  have hfl := flat_declared R ks xn xk
                  rw [← hDD] at hlen hfl
                  have hnlb : nl ≤ k + 1 := by have := HM0.out; simp only at hfl; omega
                  have hnkb : nk ≤ k + 1 := by have := HK0.out; simp only at hlen; omega
                  have hndb : nd ≤ k + 1 := by have := HD0.out; simp only at hlen; omega
                  have hrd : Calls Try.prog 12 #[.agg #[.slice aL m0 cL, .slice aK k0 cK, .int .i64 (d0 : Int)], .string xn, .int .i64 xk] w1 fun e w' => ∃ aL2 cL2 aK2 cK2, e = .returned (.tuple #[.agg #[.slice aL2 nl cL2, .slice aK2 nk cK2, .int .i64 (nd : Int)], .bool false]) ∧ IsX w' (fun g => Free F' X g ∨ w1.heap.size ≤ g) aL2 cL2 aK2 cK2 R2 k2 ∧ Below w1.heap.size w1 w' := by
                    have := rdeclare_any HY1.out.x xn xk HY1.out.s.some_ (by have := HM0.out; omega) (by have := HD0.out; omega) (by have := HK0.out; omega)
                    unfold xval at this
                    rw [← HM0.out, ← HK0.out, ← HD0.out, ← hDD, hmb] at this
                    simp only at this
                    rw [← hnl, ← hnk, ← hnd] at this
                    exact this
                  have HNL := hidden hnl
                  have HNK := hidden hnk
                  have HND := hidden hnd
                  have HDD := hidden hDD
                  have HMB := hidden hmb
                  clear hnl hnk hnd hDD hlen hfl hmb
                  go_wp2_with fail
                  rw [show wr.alloc (.cells #[.int .i64 2, .string xn, .int .i64 xk] 32) = w1 from HWW.out.symm, ← HAA.out]
                  clear xa0 xa1 xa2 z0 z1 z2
                  go_wp2_with (go_at_call 12; with_reducible refine hrd.mono ?_; rintro e w2 ⟨aL2, cL2, aK2, cK2, rfl, hX2, hb2⟩; have HY2 := hidden (HY1.out.below hb2); have hy3 : Y S W p X A ⟨2, xn, xk⟩ (w2.alloc (.cells #[.slice aL2 nl cL2, .slice aK2 nk cK2, .int .i64 (nd : Int)] 29)) F' R ks aL cL aK cK R ks := HY2.out.below ((Below.refl _ _).alloc (Nat.le_refl _) _); have u1 : (w2.alloc (.cells #[.slice aL2 nl cL2, .slice aK2 nk cK2, .int .i64 (nd : Int)] 29)).cell? ⟨A, 1, none⟩ = some (.string xn) := hy3.a.at_ rfl; have u2 : (w2.alloc (.cells #[.slice aL2 nl cL2, .slice aK2 nk cK2, .int .i64 (nd : Int)] 29)).cell? ⟨A, 2, none⟩ = some (.int .i64 xk) := hy3.a.at_ rfl)
                  obtain ⟨B8, hB8⟩ : ∃ B, B = w2.heap.size := ⟨_, rfl⟩
                  obtain ⟨w3, hw3⟩ : ∃ w3, w3 = w2.alloc (.cells #[.slice aL2 nl cL2, .slice aK2 nk cK2, .int .i64 (nd : Int)] 29) := ⟨_, rfl⟩
                  rw [← hw3, ← hB8]
                  rw [← hw3] at hy3
                  have HY3 := hidden hy3
                  have HX3 := hidden (show IsX w3 (Free F' X) aL2 cL2 aK2 cK2 R2 k2 by rw [hw3]; exact (HY1.out.news hX2).below ((Below.refl _ _).alloc (Nat.le_refl _) _))
                  have H8 := hidden (show Held w3 B8 29 #[.slice aL2 nl cL2, .slice aK2 nk cK2, .int .i64 (nd : Int)] by rw [hw3, hB8]; exact Held.new _ _ _)
                  have N8 := hidden (show ¬ F' B8 from fun h => by have := HY2.out.s.lt _ h; omega)
                  clear u1 u2 hy3 hw3 hB8 hX2 hb2 hrd
                  have hde : Calls Try.prog 13 #[.pointer (some ⟨p, 0, none⟩), .string xn, .int .i64 xk] w3 fun e w' => e = .returned (.tuple #[.int .i64 0, .bool false]) ∧ ∃ F2, IsS w' p F2 R2 k2 ∧ Tn F' w3 w' ∧ Grew F' F2 w3 := by
                    have := declare_any HY3.out.s HXN.out xk (by have := HD0.out; omega) (by have := HK0.out; omega)
                    unfold slotOf at this
                    rw [HMB.out, ← HDD.out, ← HK0.out] at this
                    exact this
                  go_wp2_with (go_at_call 13; with_reducible refine hde.mono ?_; rintro e w4 ⟨rfl, F2, hS4, hT4, hG4⟩; have HY4 := hidden (HY3.out.sOp hS4 hT4 hG4); have h8 := (H8.out.sOp N8.out hT4 hG4).1; have v0 : w4.cell? ⟨B8, 0, none⟩ = some (.slice aL2 nl cL2) := h8.at_ rfl; have v1 : w4.cell? ⟨B8, 1, none⟩ = some (.slice aK2 nk cK2) := h8.at_ rfl; have v2 : w4.cell? ⟨B8, 2, none⟩ = some (.int .i64 (nd : Int)) := h8.at_ rfl; have hc4 : Held w4 X 29 #[.slice aL m0 cL, .slice aK k0 cK, .int .i64 (d0 : Int)] := xcs_is HY4.out.c HM0.out HK0.out HD0.out; have b40 : w4.cell? ⟨X, 0, none⟩ = some (.slice aL m0 cL) := hc4.at_ rfl; have b41 : w4.cell? ⟨X, 1, none⟩ = some (.slice aK k0 cK) := hc4.at_ rfl; have b42 : w4.cell? ⟨X, 2, none⟩ = some (.int .i64 (d0 : Int)) := hc4.at_ rfl; have ba41 : w4.cell? ⟨A, 1, none⟩ = some (.string xn) := HY4.out.a.at_ rfl; have ba42 : w4.cell? ⟨A, 2, none⟩ = some (.int .i64 xk) := HY4.out.a.at_ rfl; have f40 := hc4.frozen 0; have f41 := hc4.frozen 1; have f42 := hc4.frozen 2)
                  obtain ⟨wz, hwz⟩ : ∃ wz, wz = ((w4.setCell ⟨X, 0, none⟩ (.slice aL2 nl cL2)).setCell ⟨X, 1, none⟩ (.slice aK2 nk cK2)).setCell ⟨X, 2, none⟩ (.int .i64 (nd : Int)) := ⟨_, rfl⟩
                  have hcz : Held wz X 29 (xcs aL2 cL2 aK2 cK2 R2 k2) := by
                    unfold xcs
                    rw [hwz, ← HNL.out, ← HNK.out, ← HND.out]
                    exact ((hc4.set 0 _).set 1 _).set 2 _
                  have HY := hidden (HY4.out.put (HX3.out.sOp hT4 hG4) (show w4.grownBy wz (some X) by rw [hwz]; exact grown_three (grown_setCell _ _ _ _) (grown_setCell _ _ _ _) (grown_setCell _ _ _ _)) hcz)
                  rw [← hwz]
                  clear hwz hcz hS4 hT4 hG4 h8 v0 v1 v2 hde
                  clear hc4 b40 b41 b42 ba41 ba42 f40 f41 f42
                  have hxn : xn.size ≤ maxLen := HXN.out
                  have hfind : Calls Try.prog 14 #[.agg #[.slice aL2 nl cL2, .slice aK2 nk cK2, .int .i64 (nd : Int)], .string xn] wz fun e w' => e = .returned (.int .i64 (ix (flat R2) xn (flat R2).length)) ∧ Below wz.heap.size wz w' := by
                    have := rfind_any HY.out.x xn (by have := HNL.out; omega)
                    unfold xval at this
                    rw [← HNK.out, ← HND.out] at this
                    rw [HNL.out]
                    exact this
                  rcases found R2 xn HY.out.s.fine with ⟨hix, hse⟩ | ⟨j, hj, hix, hs1, hs2, hs3⟩
                  · as_aux_lemma =>
                      rw [hix] at hfind
                      have HSE := hidden hse
                      clear hix hse
                      go_wp2_with (go_at_call 14; with_reducible refine hfind.mono ?_; rintro e w3 ⟨rfl, hb3⟩; have a13 : w3.cell? ⟨A, 1, none⟩ = some (.string xn) := (HY.out.a.since hb3).at_ rfl)
                      have HY3 := hidden (HY.out.below hb3)
                      clear hb3 hfind
                      have hsf := find_any HY3.out.s hxn
                      rw [HSE.out, show told (0, 0, 0) = .tuple #[.int .i64 0, .int .i64 0, .bool false] from rfl] at hsf
                      go_wp2_with (go_at_call 15; with_reducible refine hsf.mono ?_; rintro e w4 ⟨rfl, hb4⟩)
                      have HY4 := hidden (HY3.out.below hb4)
                      clear hb4 hsf a13
                      obtain ⟨w5, hw5⟩ : ∃ w5, w5 = w4.drew := ⟨_, rfl⟩
                      have HY5 := hidden (show Y S W p X A ⟨2, xn, xk⟩ w5 F2 R2 k2 aL2 cL2 aK2 cK2 R2 k2 by rw [hw5]; exact HY4.out.below (Below.refl _ _).drew)
                      have hh5 : Held w5 X 29 #[.slice aL2 nl cL2, .slice aK2 nk cK2, .int .i64 (nd : Int)] := by
                        have := HY5.out.c
                        unfold xcs at this
                        rw [← HNL.out, ← HNK.out, ← HND.out] at this
                        exact this
                      have HH5 := hidden hh5
                      refine wp_region_bigE (F := fun w' => ∃ i : Seen27 X (.slice aL2 nl cL2) (.slice aK2 nk cK2) nd, w' = i.w) (by kernel_rfl) ?_
                      change wpE _ _ _ _ _ _ _ w4.drew
                      rw [← hw5]
                      clear hw5
                      have hne : Nonempty (Seen27 X (.slice aL2 nl cL2) (.slice aK2 nk cK2) nd) := ⟨⟨w5, hh5.at_ rfl, hh5.at_ rfl, hh5.at_ rfl⟩⟩
                      refine wpE_mask (m := 11) [true,true,true,true,true,true,true,true,true,true,true,true,true,true,true,true,true,true,true,true,true,true,true,true,true,true,true,true,true,true,true,true,true,true,true,true,true,true,true,false,true,true,false,false,false,false,false,false,false,false,false,false] (by intro c a d v w h; cases d <;> exact h) (by kernel_rfl) ⟨⟨w5, hh5.at_ rfl, hh5.at_ rfl, hh5.at_ rfl⟩, rfl⟩ ?_
                      have f0 : ∀ i : Seen27 X (.slice aL2 nl cL2) (.slice aK2 nk cK2) nd, i.w.cell? ⟨X, 0, none⟩ = some (.slice aL2 nl cL2) := fun i => i.c0
                      have f1 : ∀ i : Seen27 X (.slice aL2 nl cL2) (.slice aK2 nk cK2) nd, i.w.cell? ⟨X, 1, none⟩ = some (.slice aK2 nk cK2) := fun i => i.c1
                      have f2 : ∀ i : Seen27 X (.slice aL2 nl cL2) (.slice aK2 nk cK2) nd, i.w.cell? ⟨X, 2, none⟩ = some (.int .i64 (nd : Int)) := fun i => i.c2
                      simp only [leftOf]
                      repeat (go_big_quiet_step (fail))
                      refine wpQuiet_nil ?_
                      have hdep := depth_any HY5.out.s
                      rw [← HND.out] at hdep
                      refine wpE_one 39 (by kernel_rfl) ?_
                      simp only [List.drop_succ_cons, List.drop_zero, List.take_succ_cons, List.take_zero]
                      go_wp2_with (go_at_call 16; with_reducible refine hdep.mono ?_; rintro e w6 ⟨rfl, hw6⟩; rw [hw6]; clear hw6 w6)
                      clear hdep
                      refine And.intro ⟨⟨w5, hh5.at_ rfl, hh5.at_ rfl, hh5.at_ rfl⟩, rfl⟩ ?_
                      refine wpE_mask (m := 4) [false,false,false,false,false,false,false,false,false,false,false,false,false,false,false,false,false,false,false,false,false,false,false,false,false,false,false,false,false,false,false,false,false,false,false,false,false,false,false,false,false,false,true,true,true,true,false,true,true,false,false,false] (by intro c a d v w h; cases d <;> exact h) (by kernel_rfl) ⟨⟨w5, hh5.at_ rfl, hh5.at_ rfl, hh5.at_ rfl⟩, rfl⟩ ?_
                      simp only [leftOf]
                      repeat (go_big_quiet_step (fail))
                      refine wpQuiet_nil ?_
                      refine wpE_one 46 (by kernel_rfl) ?_
                      simp only [List.drop_succ_cons, List.drop_zero, List.take_succ_cons, List.take_zero]
                      go_wp2_with (go_at_call 18; with_reducible refine (kinds_any HY5.out.s (by have := HNK.out; omega)).mono ?_; rintro e w6 ⟨v6, rfl, hown6, hb6⟩; obtain ⟨aV, cV, rfl, _, hrV⟩ := own_rows hown6; rw [← HNK.out] at hrV ⊢)
                      have hh6 := hh5.since hb6
                      have HY6 := hidden (HY5.out.below hb6)
                      refine And.intro ⟨⟨w6, hh6.at_ rfl, hh6.at_ rfl, hh6.at_ rfl⟩, rfl⟩ ?_
                      have hsm : Calls Try.prog 17 #[.slice aV nk cV, .slice aK2 nk cK2] w6 fun e w' => e = .returned (.bool true) ∧ ∃ q, w' = w6.drewN q := by
                        have h1 := HY6.out.x.kinds.rows
                        rw [← HNK.out] at h1
                        have := sameInts_any aV aK2 nk nk cV cK2 (nums k2) (nums k2) w6 (by omega) (by omega) hrV h1
                        rw [allEq_true (fun _ _ => rfl)] at this
                        simpa using this
                      clear hrV hown6 hb6
                      refine wpE_one 49 (by kernel_rfl) ?_
                      simp only [List.drop_succ_cons, List.drop_zero, List.take_succ_cons, List.take_zero]
                      go_wp2_with (go_at_call 17; with_reducible refine hsm.mono ?_; rintro e w7 ⟨rfl, q7, hw7⟩)
                      obtain ⟨w8, hw8⟩ : ∃ w8, w8 = w6.drewN q7 := ⟨_, rfl⟩
                      rw [← hw8]
                      have hh8 : Held w8 X 29 #[.slice aL2 nl cL2, .slice aK2 nk cK2, .int .i64 (nd : Int)] := by rw [hw8]; exact hh6.drewN q7
                      have HY8 := hidden (show Y S W p X A ⟨2, xn, xk⟩ w8 F2 R2 k2 aL2 cL2 aK2 cK2 R2 k2 by rw [hw8]; exact HY6.out.below (below_drewN _ _ _))
                      clear hw8 hsm
                      refine And.intro ⟨⟨w8, hh8.at_ rfl, hh8.at_ rfl, hh8.at_ rfl⟩, rfl⟩ ?_
                      refine wpE_mask (m := 0) [false,false,false,false,false,false,false,false,false,false,false,false,false,false,false,false,false,false,false,false,false,false,false,false,false,false,false,false,false,false,false,false,false,false,false,false,false,false,false,false,false,false,false,false,false,false,false,false,false,false,true,true] (by intro c a d v w h; cases d <;> exact h) (by kernel_rfl) ⟨⟨w8, hh8.at_ rfl, hh8.at_ rfl, hh8.at_ rfl⟩, rfl⟩ ?_
                      simp only [leftOf]
                      repeat (go_big_quiet_step (fail))
                      refine wpQuiet_nil ?_
                      refine wpE_end (by kernel_rfl) ?_
                      clear f0 f1 f2 hne
                      go_wp2_with fail
                      go_roundw
                      case rel =>
                        have q1 := HNL.out
                        have q2 := HNK.out
                        have q3 := HND.out
                        exact ⟨k + 1, F2, R2, k2, aL2, cL2, aK2, cK2, by omega, by go_num, by omega, by omega, by omega, hidden HY8.out.s, hidden HY8.out.x, hidden HY8.out.c, hidden HY8.out.nX, hidden HY8.out.b, hidden HY8.out.o⟩
                      case measure => simp [intOf]; omega
                  · as_aux_lemma =>
                      rw [hix] at hfind
                      obtain ⟨gL, haL, _⟩ := HY.out.x.vars.va hj
                      subst haL
                      obtain ⟨sl, hsl⟩ : ∃ x, x = ((flat R2).getD j default).sl := ⟨_, rfl⟩
                      obtain ⟨kd, hkd⟩ : ∃ x, x = ((flat R2).getD j default).kd := ⟨_, rfl⟩
                      rw [hs2] at hs3
                      rw [← hsl] at hs1
                      rw [← hkd] at hs2 hs3
                      have HJ := hidden hj
                      have hjn : (j : Int) < (nl : Int) := by have := HNL.out; omega
                      have HSL := hidden hsl
                      have HKD := hidden hkd
                      have HS12 := hidden (And.intro hs1 hs2)
                      have hkz : decide (kd = 0) = false := by simp; omega
                      clear hix hj hsl hkd hs1 hs2
                      go_wp2_with (go_at_call 14; with_reducible refine hfind.mono ?_; rintro e w3 ⟨rfl, hb3⟩; have a13 : w3.cell? ⟨A, 1, none⟩ = some (.string xn) := (HY.out.a.since hb3).at_ rfl)
                      have HY3 := hidden (HY.out.below hb3)
                      clear hb3 hfind
                      have hsf := find_any HY3.out.s hxn
                      rw [show told (Sees R2 xn) = .tuple #[.int .i64 (sl : Int), .int .i64 (kd : Int), .bool true] by unfold told; rw [HS12.out.1, HS12.out.2, hkz]; rfl] at hsf
                      go_wp2_with (go_at_call 15; with_reducible refine hsf.mono ?_; rintro e w4 ⟨rfl, hb4⟩)
                      have HY4 := hidden (HY3.out.below hb4)
                      have hj0 : decide ((0 : Int) ≤ (j : Int)) = true := by simp
                      clear hb4 hsf a13
                      obtain ⟨w5, hw5⟩ : ∃ w5, w5 = w4.drew := ⟨_, rfl⟩
                      have HY5 := hidden (show Y S W p X A ⟨2, xn, xk⟩ w5 F2 R2 k2 (some ⟨gL, 0, none⟩) cL2 aK2 cK2 R2 k2 by rw [hw5]; exact HY4.out.below (Below.refl _ _).drew)
                      have hh5 : Held w5 X 29 #[.slice (some ⟨gL, 0, none⟩) nl cL2, .slice aK2 nk cK2, .int .i64 (nd : Int)] := by
                        have := HY5.out.c
                        unfold xcs at this
                        rw [← HNL.out, ← HNK.out, ← HND.out] at this
                        exact this
                      have hh52 : w5.cell? ⟨gL, j * 4 + 2, none⟩ = some (.int .i64 (sl : Int)) := by
                        obtain ⟨g', hg', _, _, _, y2, _⟩ := HY5.out.x.vars.va HJ.out
                        injection hg' with hg'; injection hg' with hg'; subst hg'
                        rw [y2, HSL.out]
                      have hh53 : w5.cell? ⟨gL, j * 4 + 3, none⟩ = some (.int .i64 (kd : Int)) := by
                        obtain ⟨g', hg', _, _, _, _, y3⟩ := HY5.out.x.vars.va HJ.out
                        injection hg' with hg'; injection hg' with hg'; subst hg'
                        rw [y3, HKD.out]
                      have HH5 := hidden hh5
                      refine wp_region_bigE (F := fun w' => ∃ i : Seen28 X gL (j * 4) (.slice (some ⟨gL, 0, none⟩) nl cL2) (.slice aK2 nk cK2) nd sl kd, w' = i.w) (by kernel_rfl) ?_
                      change wpE _ _ _ _ _ _ _ w4.drew
                      rw [← hw5]
                      clear hw5
                      have hne : Nonempty (Seen28 X gL (j * 4) (.slice (some ⟨gL, 0, none⟩) nl cL2) (.slice aK2 nk cK2) nd sl kd) := ⟨⟨w5, hh5.at_ rfl, hh5.at_ rfl, hh5.at_ rfl, hh52, hh53⟩⟩
                      refine wpE_mask (m := 11) [true,true,true,true,true,true,true,true,true,true,true,true,true,true,true,true,true,true,true,true,true,true,true,true,true,true,true,true,true,true,true,true,true,true,true,true,true,true,true,false,true,true,false,false,false,false,false,false,false,false,false,false] (by intro c a d v w h; cases d <;> exact h) (by kernel_rfl) ⟨⟨w5, hh5.at_ rfl, hh5.at_ rfl, hh5.at_ rfl, hh52, hh53⟩, rfl⟩ ?_
                      have f0 : ∀ i : Seen28 X gL (j * 4) (.slice (some ⟨gL, 0, none⟩) nl cL2) (.slice aK2 nk cK2) nd sl kd, i.w.cell? ⟨X, 0, none⟩ = some (.slice (some ⟨gL, 0, none⟩) nl cL2) := fun i => i.c0
                      have f1 : ∀ i : Seen28 X gL (j * 4) (.slice (some ⟨gL, 0, none⟩) nl cL2) (.slice aK2 nk cK2) nd sl kd, i.w.cell? ⟨X, 1, none⟩ = some (.slice aK2 nk cK2) := fun i => i.c1
                      have f2 : ∀ i : Seen28 X gL (j * 4) (.slice (some ⟨gL, 0, none⟩) nl cL2) (.slice aK2 nk cK2) nd sl kd, i.w.cell? ⟨X, 2, none⟩ = some (.int .i64 (nd : Int)) := fun i => i.c2
                      have f3 : ∀ i : Seen28 X gL (j * 4) (.slice (some ⟨gL, 0, none⟩) nl cL2) (.slice aK2 nk cK2) nd sl kd, i.w.cell? ⟨gL, j * 4 + 2, none⟩ = some (.int .i64 (sl : Int)) := fun i => i.y2
                      have f4 : ∀ i : Seen28 X gL (j * 4) (.slice (some ⟨gL, 0, none⟩) nl cL2) (.slice aK2 nk cK2) nd sl kd, i.w.cell? ⟨gL, j * 4 + 3, none⟩ = some (.int .i64 (kd : Int)) := fun i => i.y3
                      simp only [leftOf]
                      repeat (go_big_quiet_step (fail))
                      refine wpQuiet_nil ?_
                      have hdep := depth_any HY5.out.s
                      rw [← HND.out] at hdep
                      refine wpE_one 39 (by kernel_rfl) ?_
                      simp only [List.drop_succ_cons, List.drop_zero, List.take_succ_cons, List.take_zero]
                      go_wp2_with (go_at_call 16; with_reducible refine hdep.mono ?_; rintro e w6 ⟨rfl, hw6⟩; rw [hw6]; clear hw6 w6)
                      clear hdep
                      refine And.intro ⟨⟨w5, hh5.at_ rfl, hh5.at_ rfl, hh5.at_ rfl, hh52, hh53⟩, rfl⟩ ?_
                      refine wpE_mask (m := 4) [false,false,false,false,false,false,false,false,false,false,false,false,false,false,false,false,false,false,false,false,false,false,false,false,false,false,false,false,false,false,false,false,false,false,false,false,false,false,false,false,false,false,true,true,true,true,false,true,true,false,false,false] (by intro c a d v w h; cases d <;> exact h) (by kernel_rfl) ⟨⟨w5, hh5.at_ rfl, hh5.at_ rfl, hh5.at_ rfl, hh52, hh53⟩, rfl⟩ ?_
                      simp only [leftOf]
                      repeat (go_big_quiet_step (fail))
                      refine wpQuiet_nil ?_
                      refine wpE_one 46 (by kernel_rfl) ?_
                      simp only [List.drop_succ_cons, List.drop_zero, List.take_succ_cons, List.take_zero]
                      go_wp2_with (go_at_call 18; with_reducible refine (kinds_any HY5.out.s (by have := HNK.out; omega)).mono ?_; rintro e w6 ⟨v6, rfl, hown6, hb6⟩; obtain ⟨aV, cV, rfl, _, hrV⟩ := own_rows hown6; rw [← HNK.out] at hrV ⊢)
                      have hh6 := hh5.since hb6
                      have hh62 := (cell_since hb6 hh52)
                      have hh63 := (cell_since hb6 hh53)
                      have HY6 := hidden (HY5.out.below hb6)
                      refine And.intro ⟨⟨w6, hh6.at_ rfl, hh6.at_ rfl, hh6.at_ rfl, hh62, hh63⟩, rfl⟩ ?_
                      have hsm : Calls Try.prog 17 #[.slice aV nk cV, .slice aK2 nk cK2] w6 fun e w' => e = .returned (.bool true) ∧ ∃ q, w' = w6.drewN q := by
                        have h1 := HY6.out.x.kinds.rows
                        rw [← HNK.out] at h1
                        have := sameInts_any aV aK2 nk nk cV cK2 (nums k2) (nums k2) w6 (by omega) (by omega) hrV h1
                        rw [allEq_true (fun _ _ => rfl)] at this
                        simpa using this
                      clear hrV hown6 hb6
                      refine wpE_one 49 (by kernel_rfl) ?_
                      simp only [List.drop_succ_cons, List.drop_zero, List.take_succ_cons, List.take_zero]
                      go_wp2_with (go_at_call 17; with_reducible refine hsm.mono ?_; rintro e w7 ⟨rfl, q7, hw7⟩)
                      obtain ⟨w8, hw8⟩ : ∃ w8, w8 = w6.drewN q7 := ⟨_, rfl⟩
                      rw [← hw8]
                      have hh8 : Held w8 X 29 #[.slice (some ⟨gL, 0, none⟩) nl cL2, .slice aK2 nk cK2, .int .i64 (nd : Int)] := by rw [hw8]; exact hh6.drewN q7
                      have hh82 : w8.cell? ⟨gL, j * 4 + 2, none⟩ = some (.int .i64 (sl : Int)) := by rw [hw8]; exact hh62
                      have hh83 : w8.cell? ⟨gL, j * 4 + 3, none⟩ = some (.int .i64 (kd : Int)) := by rw [hw8]; exact hh63
                      have HY8 := hidden (show Y S W p X A ⟨2, xn, xk⟩ w8 F2 R2 k2 (some ⟨gL, 0, none⟩) cL2 aK2 cK2 R2 k2 by rw [hw8]; exact HY6.out.below (below_drewN _ _ _))
                      clear hw8 hsm
                      refine And.intro ⟨⟨w8, hh8.at_ rfl, hh8.at_ rfl, hh8.at_ rfl, hh82, hh83⟩, rfl⟩ ?_
                      refine wpE_mask (m := 0) [false,false,false,false,false,false,false,false,false,false,false,false,false,false,false,false,false,false,false,false,false,false,false,false,false,false,false,false,false,false,false,false,false,false,false,false,false,false,false,false,false,false,false,false,false,false,false,false,false,false,true,true] (by intro c a d v w h; cases d <;> exact h) (by kernel_rfl) ⟨⟨w8, hh8.at_ rfl, hh8.at_ rfl, hh8.at_ rfl, hh82, hh83⟩, rfl⟩ ?_
                      simp only [leftOf]
                      repeat (go_big_quiet_step (fail))
                      refine wpQuiet_nil ?_
                      refine wpE_end (by kernel_rfl) ?_
                      clear f0 f1 f2 hne
                      go_wp2_with fail
                      go_roundw
                      case rel =>
                        have q1 := HNL.out
                        have q2 := HNK.out
                        have q3 := HND.out
                        exact ⟨k + 1, F2, R2, k2, (some ⟨gL, 0, none⟩), cL2, aK2, cK2, by omega, by go_num, by omega, by omega, by omega, hidden HY8.out.s, hidden HY8.out.x, hidden HY8.out.c, hidden HY8.out.nX, hidden HY8.out.b, hidden HY8.out.o⟩
                      case measure => simp [intOf]; omega
              · have h0f : (xd == 0) = false := by simp only [beq_eq_false_iff_ne, ne_eq]; exact hd0
                have h1f : (xd == 1) = false := by simp only [beq_eq_false_iff_ne, ne_eq]; exact hd1
                have h2f : (xd == 2) = false := by simp only [beq_eq_false_iff_ne, ne_eq]; exact hd2
                clear hd0 hd1 hd2
                go_wp2_with fail
                rw [show wr.alloc (.cells #[.int .i64 xd, .string xn, .int .i64 xk] 32) = w1 from HWW.out.symm, ← HAA.out]
                clear xa0 xa1 xa2 z0 z1 z2
                obtain ⟨wz, hwz⟩ : ∃ wz, wz = w1 := ⟨_, rfl⟩
                rw [← hwz] at HY1 ⊢
                have HY := HY1
                have HNL := HM0
                have HNK := HK0
                have HND := HD0
                have hxn : xn.size ≤ maxLen := HXN.out
                have hfind : Calls Try.prog 14 #[.agg #[.slice aL m0 cL, .slice aK k0 cK, .int .i64 (d0 : Int)], .string xn] wz fun e w' => e = .returned (.int .i64 (ix (flat R) xn (flat R).length)) ∧ Below wz.heap.size wz w' := by
                  have := rfind_any HY.out.x xn (by have := HNL.out; omega)
                  unfold xval at this
                  rw [← HNK.out, ← HND.out] at this
                  rw [HNL.out]
                  exact this
                rcases found R xn HY.out.s.fine with ⟨hix, hse⟩ | ⟨j, hj, hix, hs1, hs2, hs3⟩
                · as_aux_lemma =>
                    rw [hix] at hfind
                    have HSE := hidden hse
                    clear hix hse
                    go_wp2_with (go_at_call 14; with_reducible refine hfind.mono ?_; rintro e w3 ⟨rfl, hb3⟩; have a13 : w3.cell? ⟨A, 1, none⟩ = some (.string xn) := (HY.out.a.since hb3).at_ rfl)
                    have HY3 := hidden (HY.out.below hb3)
                    clear hb3 hfind
                    have hsf := find_any HY3.out.s hxn
                    rw [HSE.out, show told (0, 0, 0) = .tuple #[.int .i64 0, .int .i64 0, .bool false] from rfl] at hsf
                    go_wp2_with (go_at_call 15; with_reducible refine hsf.mono ?_; rintro e w4 ⟨rfl, hb4⟩)
                    have HY4 := hidden (HY3.out.below hb4)
                    clear hb4 hsf a13
                    obtain ⟨w5, hw5⟩ : ∃ w5, w5 = w4.drew := ⟨_, rfl⟩
                    have HY5 := hidden (show Y S W p X A ⟨xd, xn, xk⟩ w5 F' R ks aL cL aK cK R ks by rw [hw5]; exact HY4.out.below (Below.refl _ _).drew)
                    have hh5 : Held w5 X 29 #[.slice aL m0 cL, .slice aK k0 cK, .int .i64 (d0 : Int)] := by
                      have := HY5.out.c
                      unfold xcs at this
                      rw [← HNL.out, ← HNK.out, ← HND.out] at this
                      exact this
                    have HH5 := hidden hh5
                    refine wp_region_bigE (F := fun w' => ∃ i : Seen27 X (.slice aL m0 cL) (.slice aK k0 cK) d0, w' = i.w) (by kernel_rfl) ?_
                    change wpE _ _ _ _ _ _ _ w4.drew
                    rw [← hw5]
                    clear hw5
                    have hne : Nonempty (Seen27 X (.slice aL m0 cL) (.slice aK k0 cK) d0) := ⟨⟨w5, hh5.at_ rfl, hh5.at_ rfl, hh5.at_ rfl⟩⟩
                    refine wpE_mask (m := 11) [true,true,true,true,true,true,true,true,true,true,true,true,true,true,true,true,true,true,true,true,true,true,true,true,true,true,true,true,true,true,true,true,true,true,true,true,true,true,true,false,true,true,false,false,false,false,false,false,false,false,false,false] (by intro c a d v w h; cases d <;> exact h) (by kernel_rfl) ⟨⟨w5, hh5.at_ rfl, hh5.at_ rfl, hh5.at_ rfl⟩, rfl⟩ ?_
                    have f0 : ∀ i : Seen27 X (.slice aL m0 cL) (.slice aK k0 cK) d0, i.w.cell? ⟨X, 0, none⟩ = some (.slice aL m0 cL) := fun i => i.c0
                    have f1 : ∀ i : Seen27 X (.slice aL m0 cL) (.slice aK k0 cK) d0, i.w.cell? ⟨X, 1, none⟩ = some (.slice aK k0 cK) := fun i => i.c1
                    have f2 : ∀ i : Seen27 X (.slice aL m0 cL) (.slice aK k0 cK) d0, i.w.cell? ⟨X, 2, none⟩ = some (.int .i64 (d0 : Int)) := fun i => i.c2
                    simp only [leftOf]
                    repeat (go_big_quiet_step (fail))
                    refine wpQuiet_nil ?_
                    have hdep := depth_any HY5.out.s
                    rw [← HND.out] at hdep
                    refine wpE_one 39 (by kernel_rfl) ?_
                    simp only [List.drop_succ_cons, List.drop_zero, List.take_succ_cons, List.take_zero]
                    go_wp2_with (go_at_call 16; with_reducible refine hdep.mono ?_; rintro e w6 ⟨rfl, hw6⟩; rw [hw6]; clear hw6 w6)
                    clear hdep
                    refine And.intro ⟨⟨w5, hh5.at_ rfl, hh5.at_ rfl, hh5.at_ rfl⟩, rfl⟩ ?_
                    refine wpE_mask (m := 4) [false,false,false,false,false,false,false,false,false,false,false,false,false,false,false,false,false,false,false,false,false,false,false,false,false,false,false,false,false,false,false,false,false,false,false,false,false,false,false,false,false,false,true,true,true,true,false,true,true,false,false,false] (by intro c a d v w h; cases d <;> exact h) (by kernel_rfl) ⟨⟨w5, hh5.at_ rfl, hh5.at_ rfl, hh5.at_ rfl⟩, rfl⟩ ?_
                    simp only [leftOf]
                    repeat (go_big_quiet_step (fail))
                    refine wpQuiet_nil ?_
                    refine wpE_one 46 (by kernel_rfl) ?_
                    simp only [List.drop_succ_cons, List.drop_zero, List.take_succ_cons, List.take_zero]
                    go_wp2_with (go_at_call 18; with_reducible refine (kinds_any HY5.out.s (by have := HNK.out; omega)).mono ?_; rintro e w6 ⟨v6, rfl, hown6, hb6⟩; obtain ⟨aV, cV, rfl, _, hrV⟩ := own_rows hown6; rw [← HNK.out] at hrV ⊢)
                    have hh6 := hh5.since hb6
                    have HY6 := hidden (HY5.out.below hb6)
                    refine And.intro ⟨⟨w6, hh6.at_ rfl, hh6.at_ rfl, hh6.at_ rfl⟩, rfl⟩ ?_
                    have hsm : Calls Try.prog 17 #[.slice aV k0 cV, .slice aK k0 cK] w6 fun e w' => e = .returned (.bool true) ∧ ∃ q, w' = w6.drewN q := by
                      have h1 := HY6.out.x.kinds.rows
                      rw [← HNK.out] at h1
                      have := sameInts_any aV aK k0 k0 cV cK (nums ks) (nums ks) w6 (by omega) (by omega) hrV h1
                      rw [allEq_true (fun _ _ => rfl)] at this
                      simpa using this
                    clear hrV hown6 hb6
                    refine wpE_one 49 (by kernel_rfl) ?_
                    simp only [List.drop_succ_cons, List.drop_zero, List.take_succ_cons, List.take_zero]
                    go_wp2_with (go_at_call 17; with_reducible refine hsm.mono ?_; rintro e w7 ⟨rfl, q7, hw7⟩)
                    obtain ⟨w8, hw8⟩ : ∃ w8, w8 = w6.drewN q7 := ⟨_, rfl⟩
                    rw [← hw8]
                    have hh8 : Held w8 X 29 #[.slice aL m0 cL, .slice aK k0 cK, .int .i64 (d0 : Int)] := by rw [hw8]; exact hh6.drewN q7
                    have HY8 := hidden (show Y S W p X A ⟨xd, xn, xk⟩ w8 F' R ks aL cL aK cK R ks by rw [hw8]; exact HY6.out.below (below_drewN _ _ _))
                    clear hw8 hsm
                    refine And.intro ⟨⟨w8, hh8.at_ rfl, hh8.at_ rfl, hh8.at_ rfl⟩, rfl⟩ ?_
                    refine wpE_mask (m := 0) [false,false,false,false,false,false,false,false,false,false,false,false,false,false,false,false,false,false,false,false,false,false,false,false,false,false,false,false,false,false,false,false,false,false,false,false,false,false,false,false,false,false,false,false,false,false,false,false,false,false,true,true] (by intro c a d v w h; cases d <;> exact h) (by kernel_rfl) ⟨⟨w8, hh8.at_ rfl, hh8.at_ rfl, hh8.at_ rfl⟩, rfl⟩ ?_
                    simp only [leftOf]
                    repeat (go_big_quiet_step (fail))
                    refine wpQuiet_nil ?_
                    refine wpE_end (by kernel_rfl) ?_
                    clear f0 f1 f2 hne
                    go_wp2_with fail
                    go_roundw
                    case rel =>
                      have q1 := HNL.out
                      have q2 := HNK.out
                      have q3 := HND.out
                      exact ⟨k + 1, F', R, ks, aL, cL, aK, cK, by omega, by go_num, by omega, by omega, by omega, hidden HY8.out.s, hidden HY8.out.x, hidden HY8.out.c, hidden HY8.out.nX, hidden HY8.out.b, hidden HY8.out.o⟩
                    case measure => simp [intOf]; omega
                · as_aux_lemma =>
                    rw [hix] at hfind
                    obtain ⟨gL, haL, _⟩ := HY.out.x.vars.va hj
                    subst haL
                    obtain ⟨sl, hsl⟩ : ∃ x, x = ((flat R).getD j default).sl := ⟨_, rfl⟩
                    obtain ⟨kd, hkd⟩ : ∃ x, x = ((flat R).getD j default).kd := ⟨_, rfl⟩
                    rw [hs2] at hs3
                    rw [← hsl] at hs1
                    rw [← hkd] at hs2 hs3
                    have HJ := hidden hj
                    have hjn : (j : Int) < (m0 : Int) := by have := HNL.out; omega
                    have HSL := hidden hsl
                    have HKD := hidden hkd
                    have HS12 := hidden (And.intro hs1 hs2)
                    have hkz : decide (kd = 0) = false := by simp; omega
                    clear hix hj hsl hkd hs1 hs2
                    go_wp2_with (go_at_call 14; with_reducible refine hfind.mono ?_; rintro e w3 ⟨rfl, hb3⟩; have a13 : w3.cell? ⟨A, 1, none⟩ = some (.string xn) := (HY.out.a.since hb3).at_ rfl)
                    have HY3 := hidden (HY.out.below hb3)
                    clear hb3 hfind
                    have hsf := find_any HY3.out.s hxn
                    rw [show told (Sees R xn) = .tuple #[.int .i64 (sl : Int), .int .i64 (kd : Int), .bool true] by unfold told; rw [HS12.out.1, HS12.out.2, hkz]; rfl] at hsf
                    go_wp2_with (go_at_call 15; with_reducible refine hsf.mono ?_; rintro e w4 ⟨rfl, hb4⟩)
                    have HY4 := hidden (HY3.out.below hb4)
                    have hj0 : decide ((0 : Int) ≤ (j : Int)) = true := by simp
                    clear hb4 hsf a13
                    obtain ⟨w5, hw5⟩ : ∃ w5, w5 = w4.drew := ⟨_, rfl⟩
                    have HY5 := hidden (show Y S W p X A ⟨xd, xn, xk⟩ w5 F' R ks (some ⟨gL, 0, none⟩) cL aK cK R ks by rw [hw5]; exact HY4.out.below (Below.refl _ _).drew)
                    have hh5 : Held w5 X 29 #[.slice (some ⟨gL, 0, none⟩) m0 cL, .slice aK k0 cK, .int .i64 (d0 : Int)] := by
                      have := HY5.out.c
                      unfold xcs at this
                      rw [← HNL.out, ← HNK.out, ← HND.out] at this
                      exact this
                    have hh52 : w5.cell? ⟨gL, j * 4 + 2, none⟩ = some (.int .i64 (sl : Int)) := by
                      obtain ⟨g', hg', _, _, _, y2, _⟩ := HY5.out.x.vars.va HJ.out
                      injection hg' with hg'; injection hg' with hg'; subst hg'
                      rw [y2, HSL.out]
                    have hh53 : w5.cell? ⟨gL, j * 4 + 3, none⟩ = some (.int .i64 (kd : Int)) := by
                      obtain ⟨g', hg', _, _, _, _, y3⟩ := HY5.out.x.vars.va HJ.out
                      injection hg' with hg'; injection hg' with hg'; subst hg'
                      rw [y3, HKD.out]
                    have HH5 := hidden hh5
                    refine wp_region_bigE (F := fun w' => ∃ i : Seen28 X gL (j * 4) (.slice (some ⟨gL, 0, none⟩) m0 cL) (.slice aK k0 cK) d0 sl kd, w' = i.w) (by kernel_rfl) ?_
                    change wpE _ _ _ _ _ _ _ w4.drew
                    rw [← hw5]
                    clear hw5
                    have hne : Nonempty (Seen28 X gL (j * 4) (.slice (some ⟨gL, 0, none⟩) m0 cL) (.slice aK k0 cK) d0 sl kd) := ⟨⟨w5, hh5.at_ rfl, hh5.at_ rfl, hh5.at_ rfl, hh52, hh53⟩⟩
                    refine wpE_mask (m := 11) [true,true,true,true,true,true,true,true,true,true,true,true,true,true,true,true,true,true,true,true,true,true,true,true,true,true,true,true,true,true,true,true,true,true,true,true,true,true,true,false,true,true,false,false,false,false,false,false,false,false,false,false] (by intro c a d v w h; cases d <;> exact h) (by kernel_rfl) ⟨⟨w5, hh5.at_ rfl, hh5.at_ rfl, hh5.at_ rfl, hh52, hh53⟩, rfl⟩ ?_
                    have f0 : ∀ i : Seen28 X gL (j * 4) (.slice (some ⟨gL, 0, none⟩) m0 cL) (.slice aK k0 cK) d0 sl kd, i.w.cell? ⟨X, 0, none⟩ = some (.slice (some ⟨gL, 0, none⟩) m0 cL) := fun i => i.c0
                    have f1 : ∀ i : Seen28 X gL (j * 4) (.slice (some ⟨gL, 0, none⟩) m0 cL) (.slice aK k0 cK) d0 sl kd, i.w.cell? ⟨X, 1, none⟩ = some (.slice aK k0 cK) := fun i => i.c1
                    have f2 : ∀ i : Seen28 X gL (j * 4) (.slice (some ⟨gL, 0, none⟩) m0 cL) (.slice aK k0 cK) d0 sl kd, i.w.cell? ⟨X, 2, none⟩ = some (.int .i64 (d0 : Int)) := fun i => i.c2
                    have f3 : ∀ i : Seen28 X gL (j * 4) (.slice (some ⟨gL, 0, none⟩) m0 cL) (.slice aK k0 cK) d0 sl kd, i.w.cell? ⟨gL, j * 4 + 2, none⟩ = some (.int .i64 (sl : Int)) := fun i => i.y2
                    have f4 : ∀ i : Seen28 X gL (j * 4) (.slice (some ⟨gL, 0, none⟩) m0 cL) (.slice aK k0 cK) d0 sl kd, i.w.cell? ⟨gL, j * 4 + 3, none⟩ = some (.int .i64 (kd : Int)) := fun i => i.y3
                    simp only [leftOf]
                    repeat (go_big_quiet_step (fail))
                    refine wpQuiet_nil ?_
                    have hdep := depth_any HY5.out.s
                    rw [← HND.out] at hdep
                    refine wpE_one 39 (by kernel_rfl) ?_
                    simp only [List.drop_succ_cons, List.drop_zero, List.take_succ_cons, List.take_zero]
                    go_wp2_with (go_at_call 16; with_reducible refine hdep.mono ?_; rintro e w6 ⟨rfl, hw6⟩; rw [hw6]; clear hw6 w6)
                    clear hdep
                    refine And.intro ⟨⟨w5, hh5.at_ rfl, hh5.at_ rfl, hh5.at_ rfl, hh52, hh53⟩, rfl⟩ ?_
                    refine wpE_mask (m := 4) [false,false,false,false,false,false,false,false,false,false,false,false,false,false,false,false,false,false,false,false,false,false,false,false,false,false,false,false,false,false,false,false,false,false,false,false,false,false,false,false,false,false,true,true,true,true,false,true,true,false,false,false] (by intro c a d v w h; cases d <;> exact h) (by kernel_rfl) ⟨⟨w5, hh5.at_ rfl, hh5.at_ rfl, hh5.at_ rfl, hh52, hh53⟩, rfl⟩ ?_
                    simp only [leftOf]
                    repeat (go_big_quiet_step (fail))
                    refine wpQuiet_nil ?_
                    refine wpE_one 46 (by kernel_rfl) ?_
                    simp only [List.drop_succ_cons, List.drop_zero, List.take_succ_cons, List.take_zero]
                    go_wp2_with (go_at_call 18; with_reducible refine (kinds_any HY5.out.s (by have := HNK.out; omega)).mono ?_; rintro e w6 ⟨v6, rfl, hown6, hb6⟩; obtain ⟨aV, cV, rfl, _, hrV⟩ := own_rows hown6; rw [← HNK.out] at hrV ⊢)
                    have hh6 := hh5.since hb6
                    have hh62 := (cell_since hb6 hh52)
                    have hh63 := (cell_since hb6 hh53)
                    have HY6 := hidden (HY5.out.below hb6)
                    refine And.intro ⟨⟨w6, hh6.at_ rfl, hh6.at_ rfl, hh6.at_ rfl, hh62, hh63⟩, rfl⟩ ?_
                    have hsm : Calls Try.prog 17 #[.slice aV k0 cV, .slice aK k0 cK] w6 fun e w' => e = .returned (.bool true) ∧ ∃ q, w' = w6.drewN q := by
                      have h1 := HY6.out.x.kinds.rows
                      rw [← HNK.out] at h1
                      have := sameInts_any aV aK k0 k0 cV cK (nums ks) (nums ks) w6 (by omega) (by omega) hrV h1
                      rw [allEq_true (fun _ _ => rfl)] at this
                      simpa using this
                    clear hrV hown6 hb6
                    refine wpE_one 49 (by kernel_rfl) ?_
                    simp only [List.drop_succ_cons, List.drop_zero, List.take_succ_cons, List.take_zero]
                    go_wp2_with (go_at_call 17; with_reducible refine hsm.mono ?_; rintro e w7 ⟨rfl, q7, hw7⟩)
                    obtain ⟨w8, hw8⟩ : ∃ w8, w8 = w6.drewN q7 := ⟨_, rfl⟩
                    rw [← hw8]
                    have hh8 : Held w8 X 29 #[.slice (some ⟨gL, 0, none⟩) m0 cL, .slice aK k0 cK, .int .i64 (d0 : Int)] := by rw [hw8]; exact hh6.drewN q7
                    have hh82 : w8.cell? ⟨gL, j * 4 + 2, none⟩ = some (.int .i64 (sl : Int)) := by rw [hw8]; exact hh62
                    have hh83 : w8.cell? ⟨gL, j * 4 + 3, none⟩ = some (.int .i64 (kd : Int)) := by rw [hw8]; exact hh63
                    have HY8 := hidden (show Y S W p X A ⟨xd, xn, xk⟩ w8 F' R ks (some ⟨gL, 0, none⟩) cL aK cK R ks by rw [hw8]; exact HY6.out.below (below_drewN _ _ _))
                    clear hw8 hsm
                    refine And.intro ⟨⟨w8, hh8.at_ rfl, hh8.at_ rfl, hh8.at_ rfl, hh82, hh83⟩, rfl⟩ ?_
                    refine wpE_mask (m := 0) [false,false,false,false,false,false,false,false,false,false,false,false,false,false,false,false,false,false,false,false,false,false,false,false,false,false,false,false,false,false,false,false,false,false,false,false,false,false,false,false,false,false,false,false,false,false,false,false,false,false,true,true] (by intro c a d v w h; cases d <;> exact h) (by kernel_rfl) ⟨⟨w8, hh8.at_ rfl, hh8.at_ rfl, hh8.at_ rfl, hh82, hh83⟩, rfl⟩ ?_
                    simp only [leftOf]
                    repeat (go_big_quiet_step (fail))
                    refine wpQuiet_nil ?_
                    refine wpE_end (by kernel_rfl) ?_
                    clear f0 f1 f2 hne
                    go_wp2_with fail
                    go_roundw
                    case rel =>
                      have q1 := HNL.out
                      have q2 := HNK.out
                      have q3 := HND.out
                      exact ⟨k + 1, F', R, ks, (some ⟨gL, 0, none⟩), cL, aK, cK, by omega, by go_num, by omega, by omega, by omega, hidden HY8.out.s, hidden HY8.out.x, hidden HY8.out.c, hidden HY8.out.nX, hidden HY8.out.b, hidden HY8.out.o⟩
                    case measure => simp [intOf]; omega
      · have hkq : k = len0 := by omega
        subst hkq
        clear hkn hk
        go_wp2_with (go_at_call 6; with_reducible refine (works_any wr).mono ?_; rintro e wx ⟨rfl, hbx⟩)
        go_ret
        exact ⟨rfl, HB.out.trans (hbx.mono (by have h1 := HB.out.size; have h2 := HS.out; omega))⟩
end Go.Proofs.Ytncbkedfodaabaa
