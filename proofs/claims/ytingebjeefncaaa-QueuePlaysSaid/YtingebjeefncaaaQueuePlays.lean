/- QueuePlays holds for every input: whatever is put into a queue, and taken, it tells what the document says, and so is who waits. -/
import Derived.Test.YtingebjeefncaaaQueueRef
import Derived.Test.YtingebjeefncaaaGenPairs
import Derived.WalkKit
import Derived.ProofKit
import Derived.OpenShut
import Derived.Carry
import Derived.Deep.RegionWith
namespace Go.Proofs.Ytingebjeefncaaa
open Go.ChangeShapes Go.WideShapes Go.ChangeAt Go.RowKit
set_option linter.unusedVariables false
set_option maxRecDepth 100000

theorem plays_works (n : Int) (a : Option Addr) (len cap : Nat) (w : World) (hl2 : len ≤ 9223372036854775807) (h : 60 < len ∨ (len ≤ 60 ∧ 100 < n ∧ n ≤ 65536)) :
    Calls Try.prog 3 #[.int .i64 n, .slice a len cap] w fun e w' => e = .returned (.bool true) ∧ Below w.heap.size w w' := by
  rcases h with h | ⟨h0, h1, h2⟩
  · have hi : (60 : Int) < (len : Int) := by omega
    go_enter Try.func3, Try.ntmps3
    go_wp2_with fail
    refine (works_any w).mono ?_
    rintro e w2 ⟨rfl, hb⟩
    have HB2 := hidden hb
    clear hb
    go_wp2_with fail
    go_ret
    exact ⟨rfl, HB2.out⟩
  · have hi : ¬ (60 : Int) < (len : Int) := by omega
    go_enter Try.func3, Try.ntmps3
    go_wp2_with fail
    refine (works_any w).mono ?_
    rintro e w2 ⟨rfl, hb⟩
    have HB2 := hidden hb
    clear hb
    go_wp2_with fail
    go_ret
    exact ⟨rfl, HB2.out⟩
theorem plays_nil (n : Int) (a : Option Addr) (len cap : Nat) (w : World) (hl : len ≤ 60) (h : n < 0 ∨ 65536 < n) :
    Calls Try.prog 3 #[.int .i64 n, .slice a len cap] w fun e w' => e = .returned (.bool true) ∧ Below w.heap.size w w' := by
  have hi : ¬ (60 : Int) < (len : Int) := by omega
  have HN := hidden h
  have hmay : ¬ (0 ≤ n ∧ n ≤ 65536) := by omega
  have HM := hidden hmay
  clear hmay
  have key : ∀ K : Prop, (n < 0 → K) → (65536 < n → K) → K := fun K k1 k2 => h.elim k1 k2
  refine key _ ?_ ?_
  all_goals
    intro hn
    clear h key
    go_enter Try.func3, Try.ntmps3
    go_wp2_with fail
    refine (new_none n w HN.out).mono ?_
    rintro e w1 ⟨rfl, hw1⟩
    rw [hw1]
    clear hw1 w1
    go_wp2_with fail
    refine (may_any n w).mono ?_
    rintro e w1 ⟨rfl, hw1⟩
    rw [hw1, decide_eq_false HM.out]
    clear hw1 w1
    go_wp2_with fail
    refine (put_nil 0 w).mono ?_
    rintro e w1 ⟨rfl, hw1⟩
    rw [hw1]
    clear hw1 w1
    go_wp2_with fail
    refine (has_nil 0 w).mono ?_
    rintro e w1 ⟨rfl, hw1⟩
    rw [hw1]
    clear hw1 w1
    go_wp2_with fail
    refine (len_nil w).mono ?_
    rintro e w1 ⟨rfl, hw1⟩
    rw [hw1]
    clear hw1 w1
    go_wp2_with fail
    refine (drain_nil 5 w).mono ?_
    rintro e w1 ⟨rfl, hw1⟩
    rw [hw1]
    clear hw1 w1
    go_wp2_with fail
    refine (works_any w).mono ?_
    rintro e w2 ⟨rfl, hb⟩
    have HB2 := hidden hb
    clear hb
    go_wp2_with fail
    go_ret
    exact ⟨rfl, HB2.out⟩
set_option maxHeartbeats 8000000 in
theorem plays_loop (n : Nat) (a : Option Addr) (len cap : Nat) (f g : Nat → Int) (w : World) (hl : len ≤ 60) (hn : n ≤ 100) (hp : Pairs w a len f g) :
    Calls Try.prog 3 #[.int .i64 (n : Int), .slice a len cap] w fun e w' => e = .returned (.bool true) ∧ Below w.heap.size w w' := by
  have hi : ¬ (60 : Int) < (len : Int) := by omega
  have hn1 : ¬ (100 : Int) < (n : Int) := by omega
  have hmay : (0 : Int) ≤ (n : Int) ∧ (n : Int) ≤ 65536 := by omega
  have HM := hidden hmay
  have HP := hidden hp
  clear hmay hp
  go_enter Try.func3, Try.ntmps3
  go_wp2_with fail
  refine (new_any n w (by omega)).mono ?_
  rintro e w1 ⟨p, q, c, rfl, hq, hb, hp, hg, hc⟩
  have HG := hidden hg
  have HC := hidden hc
  have HB := hidden hb
  have HQ := hidden hq
  clear hq hb hp hg hc
  go_wp2_with fail
  refine (may_any n w1).mono ?_
  rintro e w2 ⟨rfl, hw2⟩
  rw [hw2, decide_eq_true HM.out]
  clear hw2 w2
  go_wp2_with fail
  go_loopw [6, 7, 8] (fun v i _ wr => ∃ (j : Nat) (b off cp : Nat) (xs : List Int), j ≤ len ∧ i = .int .i64 (j : Int) ∧ v = .slice (some ⟨b, off, none⟩) xs.length cp ∧ xs.length ≤ cp ∧ Hid (Rows' .i64 wr (some ⟨b, off, none⟩) xs.length (fun j => xs.getD j 0)) ∧ Hid (IsQ wr p q c n xs) ∧ Hid (Below w.heap.size w wr)) (fun _ i _ _ => len - (intOf i).toNat)
  case atStart => exact ⟨0, _, _, _, [], by omega, rfl, rfl, Nat.le_refl _, fun h => absurd h (by simp), HQ.out.since (below_start w1 _), HB.out.trans ((below_start w1 _).mono HB.out.size)⟩
  case round =>
    obtain ⟨j, b, off, cp, xs, hj, rfl, rfl, hcp, hR, hI, hB⟩ := hrel
    by_cases hjn : j < len
    · have hji : (j : Int) < (len : Int) := by omega
      obtain ⟨pb, po, rfl, hlt, hcs⟩ := HP.out (by omega)
      have hc0 : wr.cell? ⟨pb, po + j * 2, none⟩ = some (.int .i64 (f j)) := (hB.out.cell (p := ⟨pb, po + j * 2, none⟩) hlt).trans (hcs j hjn).1
      have hc1 : wr.cell? ⟨pb, po + j * 2 + 1, none⟩ = some (.int .i64 (g j)) := (hB.out.cell (p := ⟨pb, po + j * 2 + 1, none⟩) hlt).trans (hcs j hjn).2
      clear hcs
      obtain ⟨kd, hkd⟩ : ∃ kd, kd = f j := ⟨_, rfl⟩
      obtain ⟨x, hx⟩ : ∃ x, x = g j := ⟨_, rfl⟩
      rw [← hkd] at hc0
      rw [← hx] at hc1
      clear hkd hx
      have hlen := hI.out.len
      obtain ⟨L, hL⟩ : ∃ L, L = xs.length := ⟨_, rfl⟩
      rw [← hL] at hlen hcp hR
      rw [← hL]
      have HL := hidden hL
      clear hL
      rw [veil 13]
      go_wp2_with fail
      refine wp_veil ?_
      obtain ⟨wA, hwA⟩ : ∃ wA, wA = wr.alloc (.cells #[.int .i64 kd, .int .i64 x] 31) := ⟨_, rfl⟩
      rw [← hwA]
      have hA0 : wA.cell? ⟨wr.heap.size, 0, none⟩ = some (.int .i64 kd) := by rw [hwA, World.cell?_alloc_at _ _ _ _ rfl]; rfl
      have hA1 : wA.cell? ⟨wr.heap.size, 1, none⟩ = some (.int .i64 x) := by rw [hwA, World.cell?_alloc_at _ _ _ _ rfl]; rfl
      have hbA : Below wr.heap.size wr wA := by rw [hwA]; exact below_start wr _
      have HRA := hidden (hR.out.below hbA)
      have HIA := hidden (hI.out.since hbA)
      have HBA := hidden (hB.out.trans (hbA.mono hB.out.size))
      have hltA : wr.heap.size < wA.heap.size := by rw [hwA]; simp
      have HLA := hidden hltA
      clear hwA hbA hc0 hc1 hltA hR hI hB
      obtain ⟨ab, hab⟩ : ∃ ab, ab = wr.heap.size := ⟨_, rfl⟩
      rw [← hab] at hA0 hA1 HLA
      rw [← hab]
      clear hab
      by_cases hk0 : kd = 0
      · subst hk0
        go_wp2_with fail
        refine (refPut_some n b off L cp xs x wA HL.out (by omega) hcp HRA.out).mono ?_
        rintro e w2 ⟨b2, off2, cp2, rfl, hb2, hcp2, hR2⟩
        have HR2 := hidden hR2
        have HRb : Hid (Rows' .i64 w2.drew (some ⟨b, off, none⟩) L (fun j => xs.getD j 0)) := HRA.out.below hb2.drew
        have HI2 := hidden (HIA.out.since hb2)
        have HB2 := hidden (HBA.out.trans (hb2.mono HBA.out.size))
        have hc2 : w2.cell? ⟨ab, 1, none⟩ = some (.int .i64 x) := (hb2.cell (p := ⟨ab, 1, none⟩) HLA.out).trans hA1
        obtain ⟨d, hd⟩ : ∃ d, d = decide (x ∈ xs) := ⟨_, rfl⟩
        obtain ⟨is, his⟩ : ∃ is, is = isNew n xs x := ⟨_, rfl⟩
        have HD := hidden hd
        have HIS := hidden his
        rw [← his]
        obtain ⟨ys, hys⟩ : ∃ ys, ys = putL n xs x := ⟨_, rfl⟩
        rw [← hys] at HR2 hcp2
        rw [← hys]
        have HYS := hidden hys
        obtain ⟨M, hM⟩ : ∃ M, M = ys.length := ⟨_, rfl⟩
        rw [← hM] at HR2 hcp2
        rw [← hM]
        have HM' := hidden hM
        clear hR2 hb2 hd his hys hM hA0 hA1
        go_wp2_with fail
        go_region_with (first
          | (go_at_call 10; refine (has_any p q c n xs x _ HI2.out.drew).mono ?_; rintro e w3 ⟨rfl, hw3⟩; rw [hw3, ← HD.out]; clear hw3 w3)
          | (go_at_call 14; refine (hasInt_list _ L cp xs x _ HL.out (by omega) HRb.out).mono ?_; rintro e w3 ⟨rfl, hw3⟩; rw [hw3, ← HD.out]; clear hw3 w3)
          | (go_at_call 9; refine (put_list p q c n xs x _ HI2.out.drew).mono ?_; rintro e w3 ⟨rfl, hq3, ht3⟩; rw [← HIS.out]; rw [← HYS.out] at hq3; have HQ3 := hidden hq3; have HT3 := hidden ht3; clear hq3 ht3))
        all_goals
          go_wp2_with fail
          refine (len_any p q c n ys w3 HQ3.out).mono ?_
          rintro e w4 ⟨rfl, hw4⟩
          rw [hw4, ← HM'.out]
          clear hw4 w4
          go_wp2_with fail
          go_roundw
          case rel =>
            refine ⟨j + 1, b2, off2, cp2, ys, by omega, by go_num, by rw [← HM'.out], by rw [← HM'.out]; exact hcp2, ?_, HQ3, ?_⟩
            · rw [← HM'.out]
              exact (show Rows' .i64 w2.drew (some ⟨b2, off2, none⟩) M (fun j => ys.getD j 0) from HR2.out).turn HI2.out.drew HT3.out
            · exact HT3.out.below (HB2.out.drew) HB2.out.size HG.out HC.out
          case measure => simp [intOf]; omega
      · have hk0' : (kd == 0) = false := by simp [hk0]
        have HK0 := hidden hk0
        clear hk0
        by_cases hk1 : kd = 1
        · subst hk1
          go_wp2_with fail
          refine (take_any p q c n xs wA HIA.out).mono ?_
          rintro e w2 ⟨rfl, hq2, ht2⟩
          have HQ2 := hidden hq2
          have HR2 := hidden (HRA.out.turn HIA.out ht2)
          have HB2 := hidden (ht2.below HBA.out HBA.out.size HG.out HC.out)
          clear hq2 ht2 hA0 hA1
          rcases xs with _ | ⟨y, ys⟩
          · have hL0 : L = 0 := HL.out
            subst hL0
            simp only [List.headD_nil, List.length_nil, Nat.lt_irrefl, decide_false, List.tail_nil] at HQ2 ⊢
            go_wp2_with fail
            refine (first_any _ 0 cp 1 w2 (by omega)).mono ?_
            rintro e w3 ⟨rfl, hw3⟩
            rw [hw3]
            clear hw3 w3
            go_wp2_with fail
            refine (len_any p q c n [] w2 HQ2.out).mono ?_
            rintro e w3 ⟨rfl, hw3⟩
            rw [hw3]
            clear hw3 w3
            go_wp2_with fail
            go_roundw
            case rel => exact ⟨j + 1, b, off, cp, [], by omega, by go_num, rfl, by simp, HR2, HQ2, HB2⟩
            case measure => simp [intOf]; omega
          · have hLs : L = ys.length + 1 := HL.out
            have HLS := hidden hLs
            obtain ⟨b', off', e, hltb, hcs⟩ := HR2.out (by omega)
            cases e
            have hcell : w2.cell? ⟨b, off, none⟩ = some (.int .i64 y) := hcs 0 (by omega)
            have hLi : (0 : Int) < (L : Int) := by omega
            have h1L : (1 : Int) ≤ (L : Int) := by omega
            have hd : decide (0 < (y :: ys).length) = true := by simp
            have hmin : min L (1 : Int).toNat = 1 := by omega
            have HMIN := hidden hmin
            clear hcs hltb hLs hmin
            rw [hd]
            simp only [List.headD_cons, List.tail_cons] at HQ2 ⊢
            clear hd
            go_wp2_with fail
            refine (first_any _ L cp 1 w2 (by omega)).mono ?_
            rintro e w3 ⟨rfl, hw3⟩
            rw [hw3, HMIN.out]
            clear hw3 w3
            go_wp2_with fail
            all_goals
              have e : L - 1 = ys.length := by have := HLS.out; omega
              rw [e]
              clear e
              refine (len_any p q c n ys w2 HQ2.out).mono ?_
              rintro e w3 ⟨rfl, hw3⟩
              rw [hw3]
              clear hw3 w3
              go_wp2_with fail
              go_roundw
              case rel =>
                first
                  | exact ⟨j + 1, b, off + 1, cp - 1, ys, by omega, by go_num, rfl, by have := HLS.out; omega, fun hp => (HR2.out.cut (j := 1) |>.congr (fun t _ => by rw [Nat.add_comm 1 t]; rfl)) (by have := HLS.out; omega) |> (fun ⟨b', off', e, h1, h2⟩ => ⟨b', off', e, h1, fun t ht => h2 t (by have := HLS.out; omega)⟩), HQ2, HB2⟩
                  | exact ⟨j + 1, b, off, 0, ys, by omega, by go_num, rfl, by have := HLS.out; omega, fun hp => absurd hp (by have := HLS.out; omega), HQ2, HB2⟩
              case measure => simp [intOf]; omega
        · have hk1' : (kd == 1) = false := by simp [hk1]
          have HK1 := hidden hk1
          clear hk1
          go_wp2_with fail
          refine (first_any _ L cp x wA (by omega)).mono ?_
          rintro e w2 ⟨rfl, hw2⟩
          rw [hw2]
          clear hw2 w2
          obtain ⟨K, hK⟩ : ∃ K, K = min L x.toNat := ⟨_, rfl⟩
          have hKL : K ≤ L := by omega
          rw [← hK]
          have etk : xs.take x.toNat = xs.take K := by
            rcases Nat.le_total L x.toNat with h | h
            · rw [List.take_of_length_le (by rw [← HL.out]; exact h), List.take_of_length_le (by rw [← HL.out]; omega)]
            · rw [show K = x.toNat by omega]
          have edr : xs.drop x.toNat = xs.drop K := by
            rcases Nat.le_total L x.toNat with h | h
            · rw [List.drop_of_length_le (by rw [← HL.out]; exact h), List.drop_of_length_le (by rw [← HL.out]; omega)]
            · rw [show K = x.toNat by omega]
          have elen : (xs.take K).length = K := by rw [List.length_take, ← HL.out]; omega
          have edlen : (xs.drop K).length = L - K := by rw [List.length_drop, ← HL.out]
          have HTK := hidden etk
          have HDR := hidden edr
          have HEL := hidden elen
          have HDL := hidden edlen
          have HK := hidden hK
          clear hK etk edr elen edlen hA0
          have hKi : (K : Int) ≤ (L : Int) := by omega
          have hKc : (K : Int) ≤ (cp : Int) := by omega
          have hKcn : K ≤ cp := by omega
          have HRd : Hid (Rows' .i64 wA.drew (some ⟨b, off, none⟩) L (fun j => xs.getD j 0)) := HRA
          go_wp2_with fail
          go_region_with (first
            | (go_at_call 12; refine (drain_any p q c n xs x _ HIA.out.drew).mono ?_; rintro e w3 ⟨v8, rfl, hN8, hI8, hT8⟩; rw [HTK.out] at hN8; rw [HDR.out] at hI8; obtain ⟨a8, cap8, rfl, hR8, _⟩ := hN8.shape; rw [HEL.out] at hR8; rw [HEL.out]; have HR8 := hidden hR8; have HI8 := hidden hI8; have HRl := hidden (HRd.out.turn HIA.out.drew hT8); have HRk := hidden (HRl.out.first hKL); have HB8 := hidden (hT8.below HBA.out.drew HBA.out.size HG.out HC.out); clear hR8 hI8 hN8 hT8)
            | (go_at_call 17; refine (sameInts_list _ _ K K _ _ (xs.take K) (xs.take K) _ HEL.out.symm HEL.out.symm (by omega) (by omega) HR8.out HRk.out).mono ?_; rintro e w4 ⟨rfl, qq, hw4⟩; rw [decide_eq_true rfl]; have HI4 : Hid (IsQ w4 p q c n (xs.drop K)) := (by rw [hw4]; exact HI8.out.drewN qq); have HR4 : Hid (Rows' .i64 w4 (some ⟨b, off, none⟩) L (fun j => xs.getD j 0)) := (by rw [hw4]; exact HRl.out.drewN qq); have HB4 : Hid (Below w.heap.size w w4) := (by rw [hw4]; exact HB8.out.trans (below_drewN w3 qq _)); clear hw4))
          all_goals
            clear hA1
            go_wp2_with fail
            all_goals
              refine (len_any p q c n (xs.drop K) w4 HI4.out).mono ?_
              rintro e w5 ⟨rfl, hw5⟩
              rw [hw5, HDL.out]
              clear hw5 w5
              go_wp2_with fail
              go_roundw
              case rel =>
                first
                  | exact ⟨j + 1, b, off + K, cp - K, xs.drop K, by omega, by go_num, congrArg (fun z => Value.slice (some ⟨b, off + K, none⟩) z (cp - K)) HDL.out.symm, by rw [HDL.out]; omega, by rw [HDL.out]; exact HR4.out.rest, HI4, HB4⟩
                  | exact ⟨j + 1, b, off, 0, xs.drop K, by omega, by go_num, congrArg (fun z => Value.slice (some ⟨b, off, none⟩) z 0) HDL.out.symm, by rw [HDL.out]; omega, by rw [HDL.out]; exact fun hp => absurd hp (by omega), HI4, HB4⟩
              case measure => simp [intOf]; omega
    · have hje : j = len := by omega
      subst hje
      have hlen := hI.out.len
      have hsm := hI.out.small
      obtain ⟨L, hL⟩ : ∃ L, L = xs.length := ⟨_, rfl⟩
      rw [← hL] at hlen hcp hR
      rw [← hL]
      have HL := hidden hL
      clear hL
      obtain ⟨w2, rfl⟩ : ∃ w2, w2 = wr := ⟨_, rfl⟩
      have hjj : ¬ (j : Int) < (j : Int) := by omega
      go_wp2_with fail
      refine (drain_any p q c n xs 1000 w2 hI.out).mono ?_
      rintro e w3 ⟨v8, rfl, hN8, hI8, hT8⟩
      have htk : xs.take (1000 : Int).toNat = xs := List.take_of_length_le (by rw [← HL.out]; omega)
      rw [htk] at hN8
      obtain ⟨a8, cap8, rfl, hR8, _⟩ := hN8.shape
      rw [← HL.out] at hR8
      rw [← HL.out]
      have HR8 := hidden hR8
      have HRl := hidden (hR.out.turn hI.out hT8)
      have HB8 := hidden (hT8.below hB.out hB.out.size HG.out HC.out)
      clear hN8 hI8 hT8 htk hR8
      go_wp2_with fail
      refine (sameInts_list a8 _ L L cap8 cp xs xs w3 HL.out HL.out (by omega) (by omega) HR8.out HRl.out).mono ?_
      rintro e w4 ⟨rfl, qq, hw4⟩
      rw [decide_eq_true rfl]
      have HB9 : Hid (Below w.heap.size w w4) := by rw [hw4]; exact HB8.out.trans (below_drewN w3 qq _)
      clear hw4
      go_wp2_with fail
      refine (works_any w4).mono ?_
      rintro e w5 ⟨rfl, hb⟩
      have HB10 := hidden hb
      clear hb
      go_wp2_with fail
      go_ret
      exact ⟨rfl, HB9.out.trans (HB10.out.mono HB9.out.size)⟩
theorem plays_walk (n : Int) (a : Option Addr) (len cap : Nat) (f g : Nat → Int) (w : World) (_ : (Lit.int .i64 n).wf = true) (hr : IsPairs w a len cap f g) :
    Calls Try.prog 3 #[.int .i64 n, .slice a len cap] w fun e w' => e = .returned (.bool true) ∧ Below w.heap.size w w' := by
  by_cases h : len ≤ 60
  · by_cases h1 : n < 0 ∨ 65536 < n
    · exact plays_nil n a len cap w h h1
    · by_cases h2 : 100 < n
      · exact plays_works n a len cap w hr.1 (.inr ⟨h, h2, by omega⟩)
      · obtain ⟨m, rfl⟩ : ∃ m : Nat, n = (m : Int) := ⟨n.toNat, by omega⟩
        exact plays_loop m a len cap f g w h (by omega) hr.2
  · exact plays_works n a len cap w hr.1 (.inl (by omega))
theorem plays_own : ownKnob Try.prog.godebug = none := by kernel_rfl
theorem plays_laidOut : laidOutB Try.prog = true := by kernel_rfl
set_option maxRecDepth 100000 in
theorem plays_lifted (os : Os) (started : os.Started) (H : Type) (enc : TypeId × Value → H) :
    ReturnsInHanded {} Try.checked os 3 .any (Rows.queuePlaysSpec.pre6 enc Try.prog Try.f3 Rows.queuePlaysRow.domain false) (Rows.queuePlaysSpec.post enc Try.prog Try.f3 false true false false) := by
  refine returnsInHanded_of_change (C := Try.checked) plays_own started (by kernel_rfl) Try.func3
    (ChangeSpec.witness6 (enc := enc) (C := Try.checked) false ⟨#[], #[.int .i64 0, .slice none 0 0], []⟩ 8 (by kernel_rfl) (by kernel_rfl) (by kernel_rfl) (by kernel_rfl)) ?_
  intro W base args ds gs before hval0 hW hcnd _
  have hval : ∀ (j : Nat) t v, Try.f3.params[j]? = some t → args[j]? = some v → Value.okWide Try.prog W .any base t v := hval0
  have hW' := hW
  obtain ⟨p, q, hA0, hV, rfl, hfz, hnd⟩ := hW
  have hA : DataW.TrodAll enc Try.prog W 0 (fun _ => true) true Try.f3.params.toList args.toList ds p := hA0
  rw [Try.params3] at hA hval
  obtain ⟨v0, vs0, d0, ds0, p0, q0, hargs, rfl, rfl, h0, r0⟩ := trodAll_cons hA
  obtain ⟨v1, vs1, d1, ds1, p1, q1, rfl, rfl, rfl, h1, r1⟩ := trodAll_cons r0
  obtain ⟨rfl, rfl, rfl⟩ := trodAll_nil r1
  obtain rfl : args = #[v0, v1] := by cases args; simp_all
  obtain ⟨rfl, rfl⟩ := trodVars_none hV
  obtain ⟨a0, rfl, rfl, rfl, w0⟩ := open_int Try.underlying3 (hval 0 3 v0 rfl rfl) h0
  obtain ⟨a1, len1, cap1, rfl⟩ := okWide_slice Try.underlying22 (hval 1 22 v1 rfl rfl)
  have k1 := h1
  have lt1 : ∀ x ∈ p1, x.block < W.heap.size := by obtain ⟨m, hm⟩ := k1; exact DataW.trod_lt m _ _ _ hm
  obtain ⟨f1, g1, w1⟩ : ∃ f g, IsPairs W a1 len1 cap1 f g := by
    obtain ⟨fuel, hf⟩ := h1
    exact pairs_in Try.underlying22 Try.underlying31 (by kernel_rfl) rfl rfl rfl rfl hf
  clear hA0 hval0
  refine (plays_walk a0 a1 len1 cap1 f1 g1 W w0 w1).mono fun e W' ⟨he, bel⟩ => ?_
  subst he
  exact ⟨_, rfl, _, _, _, [], _, [], hW', trodAll_mk1 (shut_bool Try.underlying4 _), (trodAll_cons_mk (shut_int Try.underlying3 w0) (trodAll_cons_mk (Below.trod plays_laidOut (by kernel_rfl) (of_decide_eq_true (by kernel_rfl)) k1 bel lt1) trodAll_mk0)), rfl, bel.frame _, fun h => by cases h⟩

/-- the statement -/
theorem plays_holds : Rows.QueuePlaysSaid :=
  OpenClaim.holds_of_wide 3 Try.f3 rfl rfl rfl rfl rfl rfl rfl ⟨rfl, rfl, rfl, rfl, rfl⟩ rfl rfl rfl rfl rfl (by kernel_rfl) Try.func3 (by kernel_rfl)
    (of_decide_eq_true (by kernel_rfl)) (by unfold Func.isWrapper; first | (rw [if_pos (by decide +kernel)]; kernel_rfl) | (rw [if_neg (by decide +kernel)]; exact ⟨rfl, rfl⟩))
    (fun os started H enc _ => plays_lifted os started H enc)
#print axioms plays_holds
end Go.Proofs.Ytingebjeefncaaa
