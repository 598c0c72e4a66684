/- QueueOnce holds for every input: who is put is taken once, in the order in which they came first, and may be put again. -/
import Derived.Test.YtingebjeefncaaaQueueWorks
import Derived.Test.YtingebjeefncaaaQueueLists
import Derived.Test.YtingebjeefncaaaGenBase
import Derived.Test.YtingebjeefncaaaGenIn
import Derived.WalkKit
import Derived.ProofKit
import Derived.OpenShut
import Derived.Carry
namespace Go.Proofs.Ytingebjeefncaaa
open Go.ChangeShapes Go.WideShapes Go.ChangeAt Go.RowKit
set_option linter.unusedVariables false
set_option maxRecDepth 100000

theorem once_long (n : Int) (a : Option Addr) (len cap : Nat) (w : World) (hl : 100 < len) (hl2 : len ≤ 9223372036854775807) :
    Calls Try.prog 4 #[.int .u8 n, .slice a len cap] w fun e w' => e = .returned (.bool true) ∧ Below w.heap.size w w' := by
  have h : (100 : Int) < (len : Int) := by omega
  go_enter Try.func4, Try.ntmps4
  go_wp2_with fail
  refine (works_any w).mono ?_
  rintro e w2 ⟨rfl, hb⟩
  have HB2 := hidden hb
  clear hb
  go_wp2_with fail
  go_ret
  exact ⟨rfl, HB2.out⟩
theorem once_short (n : Nat) (a : Option Addr) (len cap : Nat) (f : Nat → Int) (w : World) (hn : n ≤ 255) (hl : len ≤ 100) (hr : Rows' .i64 w a len f) :
    Calls Try.prog 4 #[.int .u8 (n : Int), .slice a len cap] w fun e w' => e = .returned (.bool true) ∧ Below w.heap.size w w' := by
  have h : ¬ (100 : Int) < (len : Int) := by omega
  have HR := hidden hr
  clear hr
  obtain ⟨k, hk⟩ : ∃ k : Nat, (n : Int).tmod 60 = (k : Int) ∧ k < 60 := ⟨n % 60, by rw [Int.tmod_eq_emod_of_nonneg (by omega)]; omega, by omega⟩
  obtain ⟨hk, hk60⟩ := hk
  go_enter Try.func4, Try.ntmps4
  go_wp2_with fail
  refine (new_any k w (by omega)).mono ?_
  rintro e w1 ⟨p, g, c, rfl, hq, hb, hp, hg, hc⟩
  have HG := hidden hg
  have HC := hidden hc
  have HB := hidden hb
  have HQ := hidden hq
  have HP1 := hidden hq.p_lt
  have HG1 := hidden hq.row.lt
  have HC1 := hidden hq.c_lt
  clear hq hb hp hg hc
  go_wp2_with fail
  -- who is put, and who came first
  go_loopw [7, 8] (fun v i wr => ∃ j : Nat, j ≤ len ∧ i = .int .i64 (j : Int) ∧ Hid (Now w1.heap.size wr v (firsts k f j)) ∧ Hid (IsQ wr p g c k (firsts k f j)) ∧ Hid (Below w.heap.size w wr) ∧ Hid (w1.heap.size ≤ wr.heap.size)) (fun _ i _ => len - (intOf i).toNat)
  case atStart => exact ⟨0, by omega, rfl, Now.of_built (Built.start w1 _ rfl) (Nat.le_refl _), HQ.out.since (below_start w1 _), HB.out.trans ((below_start w1 _).mono HB.out.size), (below_start w1 _).size⟩
  case round =>
    obtain ⟨j, hj, rfl, hN, hI, hB, hS⟩ := hrel
    by_cases hjn : j < len
    · have hji : (j : Int) < (len : Int) := by omega
      obtain ⟨b, off, rfl, hlt, hcs⟩ := HR.out (by omega)
      have hcell : wr.cell? ⟨b, off + j, none⟩ = some (.int .i64 (f j)) := (hB.out.cell (p := ⟨b, off + j, none⟩) hlt).trans (hcs j hjn)
      have hlt' : b < w.heap.size := hlt
      clear hcs
      have hsucc : firsts k f (j + 1) = if (0 ≤ f j ∧ f j < (k : Int)) ∧ ¬ f j ∈ firsts k f j then firsts k f j ++ [f j] else firsts k f j := rfl
      have hfl := firsts_length k f j
      obtain ⟨x, hx⟩ : ∃ x, x = f j := ⟨_, rfl⟩
      rw [← hx] at hcell hsucc
      clear hx
      obtain ⟨F, hF⟩ : ∃ F, F = firsts k f j := ⟨_, rfl⟩
      rw [← hF] at hN hI hsucc hfl
      clear hF
      have HS := hidden hsucc
      clear hsucc
      go_wp2_with fail
      refine (put_any p g c k F x wr hI.out).mono ?_
      rintro e w2 ⟨rfl, hq, ht⟩
      have hcell2 : w2.cell? ⟨b, off + j, none⟩ = some (.int .i64 x) := by
        have r1 : Rows' .i64 wr (some ⟨b, off + j, none⟩) 1 (fun _ => x) := fun _ => ⟨b, off + j, rfl, Nat.lt_of_lt_of_le hlt' hB.out.size, fun t ht => by rw [show t = 0 by omega]; exact hcell⟩
        obtain ⟨b', off', e, _, hc'⟩ := r1.turn hI.out ht (by omega)
        cases e
        exact hc' 0 (by omega)
      have HN2 := hidden (hN.out.turn hI.out ht)
      have HB2 := hidden (ht.below hB.out hB.out.size HG.out HC.out)
      have HS2 := hidden (Nat.le_trans hS.out ht.size)
      clear hcell ht
      by_cases hcond : (0 ≤ x ∧ x < (k : Int)) ∧ ¬ x ∈ F
      · rw [if_pos hcond] at hq HS
        rw [decide_eq_true hcond]
        have HQ2 := hidden hq
        clear hq hcond
        go_wp2_with (at_builtin; refine wpList_push_now rfl (.tmp 37) (.tmp 42) rfl w1.heap.size w2 _ _ _ rfl rfl HN2.out HS2.out (by omega) ?_; intro v1 w3 hN3 hB3)
        have HN3 := hidden hN3
        have HB3 := hidden hB3
        clear hN3 hB3
        go_wp2_with fail
        go_roundw
        case rel =>
          refine ⟨j + 1, by omega, by go_num, ?_, ?_, HB2.out.trans (HB3.out.mono HB.out.size), Nat.le_trans HS2.out HB3.out.size⟩
          · rw [HS.out]; exact HN3
          · rw [HS.out]; exact HQ2.out.below HB3.out HP1.out HG1.out HC1.out
        case measure => simp [intOf]; omega
      · rw [if_neg hcond] at hq HS
        rw [decide_eq_false hcond]
        have HQ2 := hidden hq
        clear hq hcond
        go_wp2_with fail
        go_roundw
        case rel =>
          refine ⟨j + 1, by omega, by go_num, ?_, ?_, HB2.out, HS2.out⟩
          · rw [HS.out]; exact HN2
          · rw [HS.out]; exact HQ2
        case measure => simp [intOf]; omega
    · have hje : j = len := by omega
      subst hje
      obtain ⟨w2, rfl⟩ : ∃ w2, w2 = wr := ⟨_, rfl⟩
      have hmem : ∀ i, i < j → (0 ≤ f i ∧ f i < (k : Int)) → f i ∈ firsts k f j := fun i hi hx => mem_firsts hx.1 hx.2 j i hi rfl
      have hfl := firsts_length k f j
      obtain ⟨F, hF⟩ : ∃ F, F = firsts k f j := ⟨_, rfl⟩
      rw [← hF] at hN hI hmem hfl
      clear hF
      have HM := hidden hmem
      clear hmem
      obtain ⟨a7, cap7, rfl, hR7, _⟩ := hN.out.shape
      have HR7 := hidden hR7
      clear hR7
      obtain ⟨L, hL⟩ : ∃ L, L = F.length := ⟨_, rfl⟩
      rw [← hL] at HR7 hN hfl
      rw [← hL]
      have HL := hidden hL
      clear hL
      go_wp2_with fail
      -- each that may be put came first
      go_loop [9] (fun i => ∃ t : Nat, t ≤ j ∧ i = .int .i64 (t : Int)) (fun i => j - (intOf i).toNat)
      case atStart => exact ⟨0, by omega, rfl⟩
      case round =>
        obtain ⟨t, ht, rfl⟩ := hrel
        by_cases htn : t < j
        · have hti : (t : Int) < (j : Int) := by omega
          obtain ⟨b, off, rfl, hlt, hcs⟩ := HR.out (by omega)
          have hcell : w2.cell? ⟨b, off + t, none⟩ = some (.int .i64 (f t)) := (hB.out.cell (p := ⟨b, off + t, none⟩) hlt).trans (hcs t htn)
          clear hcs
          have hm := HM.out t htn
          obtain ⟨x, hx⟩ : ∃ x, x = f t := ⟨_, rfl⟩
          rw [← hx] at hcell hm
          clear hx
          have Hm := hidden hm
          clear hm
          by_cases h1 : 0 ≤ x
          · by_cases h2 : x < (k : Int)
            · go_wp2_with fail
              refine (hasInt_any a7 L cap7 (fun j => F.getD j 0) x _ (by omega) HR7.out).mono ?_
              rintro e w3 ⟨rfl, hw3⟩
              rw [hw3]
              clear hw3 w3
              rw [decide_eq_true (by rw [HL.out]; exact in_list.2 (Hm.out ⟨h1, h2⟩))]
              go_wp2_with fail
              go_round
              case rel => exact ⟨t + 1, by omega, by go_num⟩
              case measure => simp [intOf]; omega
            · go_wp2_with fail
              go_round
              case rel => exact ⟨t + 1, by omega, by go_num⟩
              case measure => simp [intOf]; omega
          · go_wp2_with fail
            go_round
            case rel => exact ⟨t + 1, by omega, by go_num⟩
            case measure => simp [intOf]; omega
        · have : t = j := by omega
          subst this
          go_wp2_with fail
          -- one is taken, and put again
          go_loopw [10, 11, 12] (fun i _ _ wr => ∃ m : Nat, m ≤ L ∧ i = .int .i64 (m : Int) ∧ Hid (IsQ wr p g c k (rot F m)) ∧ Hid (Turn g c w2 wr)) (fun i _ _ _ => L - (intOf i).toNat)
          case atStart => exact ⟨0, by omega, rfl, by rw [rot_zero]; exact hI, Turn.refl _ _ _⟩
          case round =>
            obtain ⟨m, hm, rfl, hIr, hTr⟩ := hrel
            have HR7r := hidden (HR7.out.turn hI.out hTr.out)
            by_cases hmL : m < L
            · have hmi : (m : Int) < (L : Int) := by omega
              obtain ⟨b, off, rfl, hlt, hcs⟩ := HR7r.out (by omega)
              have hcell0 : wr.cell? ⟨b, off + m, none⟩ = some (.int .i64 (F.getD m 0)) := hcs m hmL
              clear hcs
              have HC0 := hidden hcell0
              clear hcell0
              have hcons := rot_cons (F := F) (j := m) (by rw [← HL.out]; exact hmL)
              have hnext := rot_next (F := F) (j := m) (by rw [← HL.out]; exact hmL)
              rw [hcons] at hIr
              obtain ⟨x, hx⟩ : ∃ x, x = F.getD m 0 := ⟨_, rfl⟩
              obtain ⟨R, hR⟩ : ∃ R, R = F.drop (m + 1) ++ F.take m := ⟨_, rfl⟩
              rw [← hx, ← hR] at hnext hIr
              rw [← hx] at HC0
              have HNX := hidden hnext
              clear hnext hcons hx hR
              have hnot : ¬ x ∈ R := (List.nodup_cons.1 hIr.out.once).1
              have hfit := hIr.out.fits x (by simp)
              have HNOT := hidden hnot
              have HFIT := hidden hfit
              clear hnot hfit
              go_wp2_with fail
              refine (take_some p g c k R x wr hIr.out).mono ?_
              rintro e w3 ⟨rfl, hq3, ht3⟩
              have HT3 := hidden (hTr.out.trans ht3)
              have HQ3 := hidden hq3
              have HC3 : Hid (w3.cell? ⟨b, off + m, none⟩ = some (.int .i64 x)) := by
                have r1 : Rows' .i64 wr (some ⟨b, off + m, none⟩) 1 (fun _ => x) := fun _ => ⟨b, off + m, rfl, hlt, fun t ht => by rw [show t = 0 by omega]; exact HC0.out⟩
                obtain ⟨b', off', e, _, hc'⟩ := r1.turn hIr.out ht3 (by omega)
                cases e
                exact hc' 0 (by omega)
              clear hq3 ht3
              have hcell3 := HC3.out
              have hne : (x != x) = false := by simp
              go_wp2_with fail
              refine (has_any p g c k R x w3 HQ3.out).mono ?_
              rintro e w4 ⟨rfl, hw4⟩
              rw [hw4, decide_eq_false HNOT.out]
              clear hw4 w4
              go_wp2_with fail
              refine (put_new p g c k R x w3 HQ3.out HFIT.out HNOT.out).mono ?_
              rintro e w4 ⟨rfl, hq4, ht4⟩
              have HT4 := hidden (HT3.out.trans ht4)
              have HQ4 := hidden hq4
              clear hq4 ht4 hcell3
              go_wp2_with fail
              go_roundw
              case rel =>
                refine ⟨m + 1, by omega, by go_num, ?_, HT4⟩
                rw [← HNX.out]; exact HQ4
              case measure => simp [intOf]; omega
            · have : m = L := by omega
              subst this
              rw [HL.out, rot_all] at hIr
              have hdup := hIr.out.once
              have HD := hidden hdup
              clear hdup
              obtain ⟨w3, rfl⟩ : ∃ w3, w3 = wr := ⟨_, rfl⟩
              have hmi : ¬ (m : Int) < (m : Int) := by omega
              go_wp2_with fail
              refine (len_any p g c k F w3 hIr.out).mono ?_
              rintro e w4 ⟨rfl, hw4⟩
              rw [hw4, ← HL.out]
              clear hw4 w4
              go_wp2_with fail
              refine (drain_any p g c k F ((m : Int) + 1) w3 hIr.out).mono ?_
              rintro e w4 ⟨v8, rfl, hN8, hI8, hT8⟩
              have htk : F.take ((m : Int) + 1).toNat = F := List.take_of_length_le (by rw [← HL.out]; omega)
              rw [htk] at hN8
              obtain ⟨a8, cap8, rfl, hR8, _⟩ := hN8.shape
              have HR8 := hidden hR8
              have HR9 := hidden (HR7r.out.turn hIr.out hT8)
              have hT9 := hTr.out.trans hT8
              have HB9 := hidden (hT9.below hB.out hB.out.size HG.out HC.out)
              clear hN8 hI8 hT8 htk hR8 hT9
              rw [← HL.out] at HR8
              rw [← HL.out]
              go_wp2_with fail
              refine (sameInts_any a8 a7 m m cap8 cap7 (fun j => F.getD j 0) (fun j => F.getD j 0) w4 (by omega) (by omega) HR8.out HR9.out).mono ?_
              rintro e w5 ⟨rfl, q, hw5⟩
              have heq : (decide (m = m) && allEq m (fun j => F.getD j 0) (fun j => F.getD j 0)) = true := by rw [allEq_true (fun _ _ => rfl)]; simp
              rw [heq]
              have HR10 : Hid (Rows' .i64 w5 a7 m (fun j => F.getD j 0)) := by rw [hw5]; exact HR9.out.drewN q
              have HB10 : Hid (Below w.heap.size w w5) := by rw [hw5]; exact HB9.out.trans (below_drewN w4 q _)
              clear hw5 heq
              go_wp2_with fail
              refine (sorted_any a7 m cap7 (fun j => F.getD j 0) w5 (by omega) HR10.out).mono ?_
              rintro e w6 ⟨v11, rfl, hB11⟩
              have hfull := srt_full F HD.out F.length (Nat.le_refl _)
              rw [← HL.out] at hfull
              obtain ⟨a11, cap11, rfl, _, _, _⟩ := hB11.shape
              rw [hfull]
              have HB12 := hidden (HB10.out.trans (hB11.below.mono HB10.out.size))
              clear hB11 hfull
              go_wp2_with fail
              refine (works_any w6).mono ?_
              rintro e w7 ⟨rfl, hb⟩
              have HB13 := hidden hb
              clear hb
              go_wp2_with fail
              go_ret
              exact ⟨rfl, HB12.out.trans (HB13.out.mono HB12.out.size)⟩
theorem wf_u8 {n : Int} (h : (Lit.int .u8 n).wf = true) : 0 ≤ n ∧ n ≤ 255 := by
  have h1 : IntKind.u8.min = 0 := by decide
  have h2 : IntKind.u8.max = 255 := by decide
  simp [Lit.wf, h1, h2] at h
  omega
theorem once_walk (n : Int) (a : Option Addr) (len cap : Nat) (zs : List Int) (w : World) (hn : (Lit.int .u8 n).wf = true) (hr : IsRow .i64 w a len cap zs) :
    Calls Try.prog 4 #[.int .u8 n, .slice a len cap] w fun e w' => e = .returned (.bool true) ∧ Below w.heap.size w w' := by
  by_cases h : len ≤ 100
  · have hb := wf_u8 hn
    obtain ⟨m, rfl⟩ : ∃ m : Nat, n = (m : Int) := ⟨n.toNat, by omega⟩
    exact once_short m a len cap _ w (by omega) h hr.rows
  · exact once_long n a len cap w (by omega) hr.len.2
theorem once_own : ownKnob Try.prog.godebug = none := by kernel_rfl
theorem once_laidOut : laidOutB Try.prog = true := by kernel_rfl
set_option maxRecDepth 100000 in
theorem once_lifted (os : Os) (started : os.Started) (H : Type) (enc : TypeId × Value → H) :
    ReturnsInHanded {} Try.checked os 4 .any (Rows.queueOnceSpec.pre6 enc Try.prog Try.f4 Rows.queueOnceRow.domain false) (Rows.queueOnceSpec.post enc Try.prog Try.f4 false true false false) := by
  refine returnsInHanded_of_change (C := Try.checked) once_own started (by kernel_rfl) Try.func4
    (ChangeSpec.witness6 (enc := enc) (C := Try.checked) false ⟨#[], #[.int .u8 0, .slice none 0 0], []⟩ 8 (by kernel_rfl) (by kernel_rfl) (by kernel_rfl) (by kernel_rfl)) ?_
  intro W base args ds gs before hval0 hW hcnd _
  have hval : ∀ (j : Nat) t v, Try.f4.params[j]? = some t → args[j]? = some v → Value.okWide Try.prog W .any base t v := hval0
  have hW' := hW
  obtain ⟨p, q, hA0, hV, rfl, hfz, hnd⟩ := hW
  have hA : DataW.TrodAll enc Try.prog W 0 (fun _ => true) true Try.f4.params.toList args.toList ds p := hA0
  rw [Try.params4] at hA hval
  obtain ⟨v0, vs0, d0, ds0, p0, q0, hargs, rfl, rfl, h0, r0⟩ := trodAll_cons hA
  obtain ⟨v1, vs1, d1, ds1, p1, q1, rfl, rfl, rfl, h1, r1⟩ := trodAll_cons r0
  obtain ⟨rfl, rfl, rfl⟩ := trodAll_nil r1
  obtain rfl : args = #[v0, v1] := by cases args; simp_all
  obtain ⟨rfl, rfl⟩ := trodVars_none hV
  obtain ⟨a0, rfl, rfl, rfl, w0⟩ := open_int Try.underlying5 (hval 0 5 v0 rfl rfl) h0
  obtain ⟨a1, len1, cap1, rfl⟩ := okWide_slice Try.underlying28 (hval 1 28 v1 rfl rfl)
  have k1 := h1
  have lt1 : ∀ x ∈ p1, x.block < W.heap.size := by obtain ⟨m, hm⟩ := k1; exact DataW.trod_lt m _ _ _ hm
  obtain ⟨z1, w1⟩ : ∃ zs, IsRow .i64 W a1 len1 cap1 zs := by
    obtain ⟨fuel, hf⟩ := h1
    rcases open_ints Try.underlying28 Try.underlying3 (by kernel_rfl) hf with ⟨hcs, _⟩ | ⟨x, l, c, zs, hcs, _, hl, hm, hz, _, hcell, hwz⟩
    · simp [Value.cells] at hcs
      obtain ⟨rfl, rfl, rfl⟩ := hcs
      exact ⟨[], .inl ⟨rfl, rfl, rfl, rfl⟩⟩
    · simp [Value.cells] at hcs
      obtain ⟨rfl, rfl, rfl⟩ := hcs
      exact ⟨zs, .inr ⟨_, rfl, hl, hm, by simpa using hz, hcell, hwz⟩⟩
  clear hA0 hval0
  refine (once_walk a0 a1 len1 cap1 z1 W w0 w1).mono fun e W' ⟨he, bel⟩ => ?_
  subst he
  exact ⟨_, rfl, _, _, _, [], _, [], hW', trodAll_mk1 (shut_bool Try.underlying4 _), (trodAll_cons_mk (shut_int Try.underlying5 w0) (trodAll_cons_mk (Below.trod once_laidOut (by kernel_rfl) (of_decide_eq_true (by kernel_rfl)) k1 bel lt1) trodAll_mk0)), rfl, bel.frame _, fun h => by cases h⟩

/-- the statement -/
theorem once_holds : Rows.QueueOnceSaid :=
  OpenClaim.holds_of_wide 4 Try.f4 rfl rfl rfl rfl rfl rfl rfl ⟨rfl, rfl, rfl, rfl, rfl⟩ rfl rfl rfl rfl rfl (by kernel_rfl) Try.func4 (by kernel_rfl)
    (of_decide_eq_true (by kernel_rfl)) (by unfold Func.isWrapper; first | (rw [if_pos (by decide +kernel)]; kernel_rfl) | (rw [if_neg (by decide +kernel)]; exact ⟨rfl, rfl⟩))
    (fun os started H enc _ => once_lifted os started H enc)
#print axioms once_holds
end Go.Proofs.Ytingebjeefncaaa
