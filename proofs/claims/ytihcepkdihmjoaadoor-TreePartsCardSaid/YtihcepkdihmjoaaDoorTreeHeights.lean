/- The walks through measure, Heights, Right and Whole. -/
import Derived.Test.YtihcepkdihmjoaaDoorTreeMeasure
import Derived.Test.YtihcepkdihmjoaaDoorTreeFitEq
import Derived.Test.YtihcepkdihmjoaaDoorTreeIsTree
import Derived.Test.YtihcepkdihmjoaaDoorGenList
import Derived.Laws.EntriesVeiled
namespace Go.Proofs.YtihcepkdihmjoaaDoor
open Go.RowKit
set_option linter.unusedVariables false

/-- the heights, or none -/
def Measured (l : List Nd) (P : Prop) (w : World) (e : Ending) (w' : World) : Prop :=
  Below w.heap.size w w' ∧ ((P ∧ ∃ g, e = .returned (.slice (some ⟨g, 0, none⟩) l.length l.length) ∧ Rows' .i64 w' (some ⟨g, 0, none⟩) l.length (fun j => (hgt l j : Int))) ∨ (¬ P ∧ e = .returned (.slice none 0 0)))
theorem measure1_lit (w0 : World) (a : Option Addr) (l : List Nd) (n c g hb lb rb : Nat) (hA : Ahead l) (hn : n = l.length) (hll : n ≤ 1000000000) (at_ : Nat) (hat : at_ < l.length) (lv : Nat) (H : Nat → Int) (w : World) (z y : Int) (h1 : 1 ≤ lv) (h2 : lv ≤ 201) (hE : Env w0 w a l n c g hb lb rb) (hM : Mine .i64 3 w g n H) (hz : z = (at_ : Int)) (hy : y = (lv : Int)) :
    Calls Tryd.prog 44 #[.int .i64 z, .int .i64 y, .pointer (some ⟨hb, 0, none⟩), .pointer (some ⟨lb, 0, none⟩), .pointer (some ⟨rb, 0, none⟩)] w (Reached l g n at_ lv H w) := by
  subst hz hy
  exact measure1 w0 a l n c g hb lb rb hA hn hll (at_ + 1) at_ (by omega) hat lv H w h1 h2 hE hM
set_option maxRecDepth 100000 in
set_option maxHeartbeats 4000000 in
theorem measure_any (a : Option Addr) (c : Nat) (l : List Nd) (w : World) (hN : Nodes w a l) (hT : IsT l) (hll : l.length ≤ 1000000000) :
    Calls Tryd.prog 28 #[.slice a l.length c] w (Measured l (hgt l (l.length - 1) ≤ 200) w) := by
  have HN := hidden hN
  have HT := hidden hT
  have hpos := hT.1
  clear hN hT
  obtain ⟨n, hn⟩ : ∃ n, n = l.length := ⟨_, rfl⟩
  rw [← hn] at hll hpos ⊢
  have HNL := hidden hn
  clear hn
  have hmk := run_make_row' (P := Tryd.prog) 25 3 (.int .i64 0) 8 Tryd.underlying25 infoI rfl .i64 .i64 n (by omega) (by omega)
  go_enter Tryd.func28, Tryd.ntmps28
  rw [veil 3, veil 4]
  go_wp2_with fail
  obtain ⟨B, hB⟩ : ∃ B, B = w.heap.size := ⟨_, rfl⟩
  rw [show w.heap.size + 1 + 1 + 1 = w.heap.size + 3 by omega, show w.heap.size + 1 + 1 = w.heap.size + 2 by omega, ← hB]
  obtain ⟨w1, hw1⟩ : ∃ w1, w1 = (((w.alloc (.cells #[.slice a n c] 22)).alloc (.cells (madeCells #[.int .i64 0] n) 3)).alloc (.cells #[.slice (some ⟨B + 1, 0, none⟩) n n] 25)).alloc (.cells #[.nilFunc] 74) := ⟨_, rfl⟩
  rw [← hw1]
  have hl0 : Held w1 B 22 #[.slice a n c] := by rw [hw1, hB]; exact (((Held.new w _ _).alloc _).alloc _).alloc _
  have hm0 : Mine .i64 3 w1 (B + 1) n (fun _ => 0) := by
    have h := Mine.made (w.alloc (.cells #[.slice a n c] 22)) .i64 3 n
    have e : (w.alloc (.cells #[.slice a n c] 22)).heap.size = B + 1 := by rw [hB]; simp
    rw [e] at h
    rw [hw1]
    refine (h.below ((Below.refl _ _).alloc (Nat.le_refl _) _)).below ((Below.refl _ _).alloc (Nat.le_refl _) _)
  have hh0 : Held w1 (B + 2) 25 #[.slice (some ⟨B + 1, 0, none⟩) n n] := by
    have h := Held.new ((w.alloc (.cells #[.slice a n c] 22)).alloc (.cells (madeCells #[.int .i64 0] n) 3)) 25 #[.slice (some ⟨B + 1, 0, none⟩) n n]
    have e : ((w.alloc (.cells #[.slice a n c] 22)).alloc (.cells (madeCells #[.int .i64 0] n) 3)).heap.size = B + 2 := by rw [hB]; simp
    rw [e] at h
    rw [hw1]
    exact h.alloc _
  have hr0 : Held w1 (B + 3) 74 #[.nilFunc] := by
    have h := Held.new (((w.alloc (.cells #[.slice a n c] 22)).alloc (.cells (madeCells #[.int .i64 0] n) 3)).alloc (.cells #[.slice (some ⟨B + 1, 0, none⟩) n n] 25)) 74 #[.nilFunc]
    have e : (((w.alloc (.cells #[.slice a n c] 22)).alloc (.cells (madeCells #[.int .i64 0] n) 3)).alloc (.cells #[.slice (some ⟨B + 1, 0, none⟩) n n] 25)).heap.size = B + 3 := by rw [hB]; simp
    rw [e] at h
    rw [hw1]
    exact h
  have HB1 : Hid (Below w.heap.size w w1) := by
    rw [hw1]
    exact ((((Below.refl _ _).alloc (Nat.le_refl _) _).alloc (by simp) _).alloc (by simp; omega) _).alloc (by simp; omega) _
  have HBB := hidden hB
  have HL0 := hidden hl0
  have HM0 := hidden hm0
  have HH0 := hidden hh0
  have HR0 := hidden hr0
  clear hB hw1 hl0 hm0 hh0 hr0 hmk
  have cr := HR0.out.at_ (j := 0) (v := .nilFunc) rfl
  have fr := HR0.out.frozen 0
  refine wp_veil ?_
  go_wp2_with fail
  obtain ⟨w2, hw2⟩ : ∃ w2, w2 = w1.setCell ⟨B + 3, 0, none⟩ (.func (.func 44) #[] #[.pointer (some ⟨B + 2, 0, none⟩), .pointer (some ⟨B, 0, none⟩), .pointer (some ⟨B + 3, 0, none⟩)]) := ⟨_, rfl⟩
  rw [← hw2]
  have HB2 : Hid (Below w.heap.size w w2) := by
    rw [hw2]
    exact HB1.out.setCell (p := ⟨B + 3, 0, none⟩) (by show _ ≤ B + 3; rw [HBB.out]; omega) _
  have HE : Hid (Env w w2 a l n c (B + 1) (B + 2) B (B + 3)) := by
    refine ⟨HN.out, HB2.out, by rw [HBB.out]; omega, ?_, ?_, ?_, by omega, by omega, by omega⟩
    · rw [hw2]; exact ((HH0.out.off (g' := B + 3) (by omega) 0 _).at_ rfl)
    · rw [hw2]; exact ((HL0.out.off (g' := B + 3) (by omega) 0 _).at_ rfl)
    · rw [hw2]; exact ((HR0.out.set 0 _).at_ rfl)
  have HM2 : Hid (Mine .i64 3 w2 (B + 1) n (fun _ => 0)) := by
    rw [hw2]
    exact HM0.out.block (Below.heap_setCell _ _ _ _ (by show B + 1 ≠ B + 3; omega))
  clear hw2 cr fr HM0 HL0 HH0 HR0
  have c1 := HE.out.rc
  have c2 := HE.out.lc
  have c3 := HE.out.hc
  refine wp_veil ?_
  go_wp2_with fail
  have HA : Hid (Ahead l) := HT.out.2.1
  have hlt : n - 1 < l.length := by rw [← HNL.out]; omega
  have hz : (n : Int) - 1 = ((n - 1 : Nat) : Int) := by omega
  have HZ := hidden hz
  have HY : Hid ((1 : Int) = ((1 : Nat) : Int)) := rfl
  clear hz
  (with_reducible refine (measure1_lit w a l n c (B + 1) (B + 2) B (B + 3) HA.out HNL.out hll (n - 1) hlt 1 (fun _ => 0) w2 ((n : Int) - 1) 1 (Nat.le_refl _) (by omega) HE.out HM2.out HZ.out HY.out).mono ?_)
  rintro e w3 ⟨b, H', rfl, hbt, hm3, hiff, htr⟩
  have HB3 : Hid (Below w.heap.size w w3) := hbt.below HB2.out HE.out.old
  have HE3 := hidden (HE.out.but hbt)
  have HM3 := hidden hm3
  have HIF := hidden hiff
  have HTR := hidden htr
  clear hbt hm3 hiff htr c1 c2 c3
  cases b with
  | false =>
    go_wp2_with fail
    go_ret
    exact ⟨HB3.out, .inr ⟨(fun h => by cases HIF.out.2 (by omega)), rfl⟩⟩
  | true =>
    have c3 := HE3.out.hc
    have hh : hgt l (n - 1) ≤ 200 := by have := HIF.out.1 rfl; omega
    have HH := hidden hh
    obtain ⟨h1, _, _⟩ := HTR.out rfl
    have HU := hidden h1
    clear h1 HTR HIF hh
    go_wp2_with fail
    go_ret
    refine ⟨HB3.out, .inl ⟨HH.out, B + 1, by rw [← HNL.out]; rfl, ?_⟩⟩
    rw [← HNL.out]
    refine HM3.out.rows.congr fun j hj => ?_
    exact HU.out j (by
      have := under_root HT.out (l.length - 1 - j) j (Nat.le_refl _) (by rw [← HNL.out]; exact hj)
      rw [← HNL.out] at this
      exact this)
/-- kids of a node ahead of which all fits -/
theorem kids_in {l : List Nd} (hA : Ahead l) {i : Nat} (hi : i < l.length) : InL l (nd l i).kids := by
  intro j hj
  obtain ⟨q, h1, h2, _⟩ := kid_q hA hi hj
  exact ⟨q, h1, by omega⟩
theorem fit_kind {l : List Nd} {x : Nd} (h : fitB l x = true) : 1 ≤ x.kind ∧ x.kind ≤ 26 := by
  unfold fitB ownB at h
  simp only [Bool.and_eq_true, decide_eq_true_eq] at h
  exact ⟨h.1.1.1.1.1, h.1.1.1.1.2⟩
theorem kinds_in {l : List Nd} (hA : Ahead l) {i : Nat} (hi : i < l.length) (hf : ∀ j, j < i → fitB l (nd l j) = true) : KindsIn (kd l (nd l i).kids) := by
  intro j hj
  rw [kd_length] at hj
  obtain ⟨q, h1, h2, _⟩ := kid_q hA hi hj
  have := fit_kind (hf q h2)
  refine ⟨(nd l q).kind.toNat, ?_, by omega⟩
  rw [kd_get hj h1]
  omega
set_option maxRecDepth 100000 in
set_option maxHeartbeats 4000000 in
theorem heights_any (a : Option Addr) (c : Nat) (l : List Nd) (w : World) (hTb : Tabs w) (hN : Nodes w a l) (hll : l.length ≤ 1000000000) :
    Calls Tryd.prog 9 #[.slice a l.length c] w (Measured l (Rt l) w) := by
  have HN := hidden hN
  have HTB := hidden hTb
  clear hN hTb
  go_enter Tryd.func9, Tryd.ntmps9
  go_wp2_with fail
  refine (isTree_any a c l w HN.out hll).mono ?_
  rintro e w1 ⟨b, rfl, hiff, hb1⟩
  have HB1 := hidden hb1
  have HIF := hidden hiff
  clear hb1 hiff
  cases b with
  | false =>
    go_wp2_with fail
    go_ret
    exact ⟨HB1.out, .inr ⟨(fun h => by cases HIF.out.2 h.1), rfl⟩⟩
  | true =>
    have HT : Hid (IsT l) := HIF.out.1 rfl
    have HA : Hid (Ahead l) := HT.out.2.1
    clear HIF
    go_wp2_with fail
    go_loopw [4, 10] (fun _ t wr => ∃ i : Nat, i ≤ l.length ∧ t = .int .i64 (i : Int) ∧ Hid (∀ j, j < i → fitB l (nd l j) = true) ∧ Hid (Below w.heap.size w wr)) (fun _ t _ => l.length - (intOf t).toNat)
    case atStart => exact ⟨0, by omega, rfl, (fun j hj => by omega), HB1⟩
    case round =>
      obtain ⟨i, hi, rfl, HF, HB⟩ := hrel
      by_cases hil : i < l.length
      · have hili : (i : Int) < (l.length : Int) := by omega
        obtain ⟨lb, lo, rfl, hlb, h5⟩ := (HN.out.below HB.out).at_ hil
        have HOK := hidden ((HN.out.below HB.out).2 i hil)
        obtain ⟨x, hx⟩ : ∃ x, x = nd l i := ⟨_, rfl⟩
        rw [← hx] at h5 HOK
        have HX := hidden hx
        clear hx
        obtain ⟨c0, c1, c2, c3, c4⟩ := h5
        go_wp2_with fail
        obtain ⟨w2, hw2⟩ : ∃ w2, w2 = wr.alloc (.cells #[.int .i64 x.kind, .slice x.ka x.kids.length x.kc, .int .i64 x.n, .string x.s, .int .i64 x.at_] 36) := ⟨_, rfl⟩
        have HB2 : Hid (Below wr.heap.size wr w2) := by rw [hw2]; exact (Below.refl _ _).alloc (Nat.le_refl _) _
        have HBW : Hid (Below w.heap.size w w2) := HB.out.trans (HB2.out.mono HB.out.size)
        have HV : Hid (x.v = .agg #[.int .i64 x.kind, .slice x.ka x.kids.length x.kc, .int .i64 x.n, .string x.s, .int .i64 x.at_]) := rfl
        have hcall := fits_any (some ⟨lb, lo, none⟩) c l x w2 (HTB.out.below HBW.out) (HN.out.below HBW.out) (HOK.out.below HB2.out) (by rw [HX.out]; exact kids_in HA.out hil) (by rw [HX.out]; exact kinds_in HA.out hil HF.out) (by omega)
        rw [HV.out] at hcall
        have HC := hidden hcall
        rw [← hw2]
        clear hw2 hcall c0 c1 c2 c3 c4
        refine HC.out.mono ?_
        rintro e w3 ⟨rfl, hb3⟩
        have HB3 : Hid (Below w.heap.size w w3) := HBW.out.trans (hb3.mono HBW.out.size)
        clear hb3
        cases hf : fitB l x with
        | false =>
          have HFB := hidden hf
          clear hf
          go_wp2_with fail
          go_ret
          refine ⟨HB3.out, .inr ⟨(fun h => ?_), rfl⟩⟩
          have := h.2.1 i hil
          rw [← HX.out, HFB.out] at this
          cases this
        | true =>
          have HFB := hidden hf
          clear hf
          go_wp2_with fail
          go_roundw
          case rel => exact ⟨i + 1, by omega, by go_num, (fun j hj => by
            rcases Nat.lt_or_ge j i with g | g
            · exact HF.out j g
            · rw [show j = i by omega, ← HX.out]; exact HFB.out), HB3⟩
          case measure => simp [intOf]; omega
      · obtain rfl : i = l.length := by omega
        go_wp2_with fail
        refine (measure_any a c l wr (HN.out.below HB.out) HT.out hll).mono ?_
        rintro e w2 ⟨hb2, hcase⟩
        have HB2 : Hid (Below w.heap.size w w2) := HB.out.trans (hb2.mono HB.out.size)
        clear hb2
        rcases hcase with ⟨hP, g, rfl, hrows⟩ | ⟨hP, rfl⟩
        · have HP := hidden hP
          have HR := hidden hrows
          clear hP hrows
          go_wp2_with fail
          go_ret
          exact ⟨HB2.out, .inl ⟨⟨HT.out, HF.out, HP.out⟩, g, rfl, HR.out⟩⟩
        · have HP := hidden hP
          clear hP
          go_wp2_with fail
          go_ret
          exact ⟨HB2.out, .inr ⟨(fun h => HP.out h.2.2), rfl⟩⟩
theorem right_any (a : Option Addr) (c : Nat) (l : List Nd) (w : World) (hTb : Tabs w) (hN : Nodes w a l) (hll : l.length ≤ 1000000000) :
    Calls Tryd.prog 11 #[.slice a l.length c] w (Tells (Rt l) w) := by
  go_enter Tryd.func11, Tryd.ntmps11
  go_wp2_with fail
  refine (heights_any a c l w hTb hN hll).mono ?_
  rintro e w1 ⟨hb1, hcase⟩
  have HB1 := hidden hb1
  clear hb1 hTb hN
  rcases hcase with ⟨hP, g, rfl, hrows⟩ | ⟨hP, rfl⟩
  · have HP := hidden hP
    have hpos : 0 < l.length := hP.1.1
    clear hP hrows
    go_wp2_with fail
    go_ret
    exact Tells.yes (by first | rfl | simp) HP.out HB1.out
  · have HP := hidden hP
    clear hP
    go_wp2_with fail
    go_ret
    exact Tells.no rfl HP.out HB1.out
end Go.Proofs.YtihcepkdihmjoaaDoor
