/- The walks through Whole, and through the reference's Height. -/
import Derived.Test.YtihcepkdihmjoaaDoorTreeHeights
namespace Go.Proofs.YtihcepkdihmjoaaDoor
open Go.RowKit
set_option linter.unusedVariables false

/-- a program's tree -/
def Wh (l : List Nd) : Prop := Rt l ∧ (nd l (l.length - 1)).kind = 26
theorem whole_any (a : Option Addr) (c n : Nat) (l : List Nd) (w : World) (hn : n = l.length) (hTb : Tabs w) (hN : Nodes w a l) (hll : n ≤ 1000000000) :
    Calls Tryd.prog 12 #[.slice a n c] w (Tells (Wh l) w) := by
  have HNL := hidden hn
  have HN := hidden hN
  have hcall := right_any a c l w hTb hN (by omega)
  rw [← hn] at hcall
  have HC := hidden hcall
  clear hn hN hcall hTb
  go_enter Tryd.func12, Tryd.ntmps12
  go_wp2_with fail
  refine HC.out.mono ?_
  rintro e w1 ⟨b, rfl, hiff, hb1⟩
  have HB1 := hidden hb1
  have HIF := hidden hiff
  clear hb1 hiff
  cases b with
  | false =>
    go_wp2_with fail
    go_ret
    exact Tells.no rfl (fun h => by cases HIF.out.2 h.1) HB1.out
  | true =>
    have HR : Hid (Rt l) := HIF.out.1 rfl
    have hpos : 0 < n := by rw [HNL.out]; exact HR.out.1.1
    obtain ⟨p, rfl⟩ : ∃ p, n = p + 1 := ⟨n - 1, by omega⟩
    have hpl : p < l.length := by rw [← HNL.out]; omega
    obtain ⟨lb, lo, rfl, hlb, h5⟩ := (HN.out.below HB1.out).at_ hpl
    have c0 := h5.1
    obtain ⟨K, hK⟩ : ∃ K, K = (nd l p).kind := ⟨_, rfl⟩
    rw [← hK] at c0
    have HK : Hid ((nd l (l.length - 1)).kind = K) := by
      show _ = _
      rw [← HNL.out, Nat.add_sub_cancel, hK]
    clear hK h5 hpos
    by_cases hk : K = 26
    · have hk' : (K == 26) = true := by simp [hk]
      have HKK := hidden hk
      clear hk
      go_wp2_with fail
      go_ret
      exact Tells.yes rfl ⟨HR.out, HK.out.trans HKK.out⟩ HB1.out
    · have hk' : (K == 26) = false := by simp [hk]
      have HKK := hidden hk
      clear hk
      go_wp2_with fail
      go_ret
      exact Tells.no rfl (fun h => HKK.out (HK.out.symm.trans h.2)) HB1.out
theorem hgt_le {l : List Nd} (hA : Ahead l) : ∀ (N i : Nat), i < N → i < l.length → hgt l i ≤ i + 1 := by
  intro N
  induction N with
  | zero => intro i h; omega
  | succ N ih =>
    intro i hiN hi
    have : ∀ j, j ≤ (nd l i).kids.length → mx l i j ≤ i + 1 := by
      intro j
      induction j with
      | zero => intro _; rw [mx_zero]; omega
      | succ j ihj =>
        intro hj
        obtain ⟨q, hq, hqi, _⟩ := kid_q hA hi (show j < (nd l i).kids.length by omega)
        rw [mx_next (by omega) hq]
        have h1 := ihj (by omega)
        have h2 := ih q (by omega) (by omega)
        omega
    rw [← mx_full hA hi]
    exact this _ (Nat.le_refl _)
set_option maxRecDepth 100000 in
set_option maxHeartbeats 4000000 in
theorem height_any (a : Option Addr) (c n : Nat) (l : List Nd) (w : World) (hn : n = l.length) (hA : Ahead l) (hN : Nodes w a l) (hll : n ≤ 1000000000) : ∀ (N i : Nat), i < N → i < l.length →
    Calls Tryd.prog 16 #[.slice a n c, .int .i64 (i : Int)] w fun e w' => e = .returned (.int .i64 (hgt l i : Int)) ∧ w' = w := by
  intro N
  induction N with
  | zero => intro i h; omega
  | succ N ih =>
    intro i hiN hi
    have HNL := hidden hn
    have HN := hidden hN
    have HA := hidden hA
    have IH := hidden ih
    have HIL := hidden hi
    have hin : (i : Int) < (n : Int) := by omega
    clear ih
    obtain ⟨lb, lo, ha, hlb, h5⟩ := HN.out.at_ HIL.out
    have HOK := hidden (HN.out.2 i HIL.out)
    have c1 := h5.2.1
    have HKR := hidden HOK.out.rows
    have hkl := HOK.out.len
    obtain ⟨ks, hks⟩ : ∃ ks, ks = (nd l i).kids := ⟨_, rfl⟩
    obtain ⟨ka, hka⟩ : ∃ ka, ka = (nd l i).ka := ⟨_, rfl⟩
    obtain ⟨kc, hkc⟩ : ∃ kc, kc = (nd l i).kc := ⟨_, rfl⟩
    obtain ⟨m, hm⟩ : ∃ m, m = ks.length := ⟨_, rfl⟩
    rw [← hks, ← hka, ← hkc, ← hm] at c1
    rw [← hks, ← hka, ← hm] at HKR
    rw [← hks, ← hm] at hkl
    have HKS := hidden hks
    have HMM := hidden hm
    have HHL := hidden (hgt_le HA.out (i + 1) i (by omega) HIL.out)
    have HAA := hidden ha
    clear hks hka hkc hm h5 hn hN hA hi
    subst ha
    clear HAA
    go_enter Tryd.func16, Tryd.ntmps16
    go_wp2_with fail
    go_loop [5, 6] (fun t5 t6 => ∃ j h : Nat, j ≤ m ∧ t6 = .int .i64 (j : Int) ∧ t5 = .int .i64 (h : Int) ∧ h ≤ 1000000001 ∧ Hid (h = mx l i j)) (fun _ t6 => m - (intOf t6).toNat)
    case atStart => exact ⟨0, 1, by omega, rfl, rfl, by omega, (by show _ = _; rw [mx_zero])⟩
    case round =>
      obtain ⟨j, h, hj, rfl, rfl, hh, HH⟩ := hrel
      by_cases hjm : j < m
      · have hjmi : (j : Int) < (m : Int) := by omega
        have hjk : Hid (j < (nd l i).kids.length) := by show j < _; rw [← HKS.out, ← HMM.out]; exact hjm
        obtain ⟨q, hq, hqi, _⟩ := kid_q HA.out HIL.out hjk.out
        obtain ⟨kb, ko, rfl, hkb, hkc⟩ := HKR.out (by omega)
        have hc := hkc j hjm
        simp only at hc
        rw [HKS.out, hq] at hc
        have HQ := hidden hq
        have HQH := hidden (hgt_le HA.out (q + 1) q (by omega) (by have := HIL.out; omega))
        clear hkc hq
        go_wp2_with fail
        refine (IH.out q (by omega) (by have := HIL.out; omega)).mono ?_
        rintro e w1 ⟨rfl, hw1⟩
        rw [hw1]; clear hw1 w1
        have hQ : hgt l q ≤ 1000000000 := by have := HQH.out; omega
        obtain ⟨Q, hQQ⟩ : ∃ Q, Q = hgt l q := ⟨_, rfl⟩
        have HMX := hidden (mx_next hjk.out HQ.out)
        rw [← hQQ] at hQ HMX ⊢
        clear hQQ
        rcases (show h < 1 + Q ∨ 1 + Q < h ∨ h = 1 + Q by omega) with hlt | hgt' | heq
        · go_wp2_with fail
          go_round
          case rel => exact ⟨j + 1, 1 + Q, by omega, by go_num, by go_num, by omega, (by show _ = _; rw [HMX.out, ← HH.out]; omega)⟩
          case measure => simp [intOf]; omega
        · go_wp2_with fail
          go_round
          case rel => exact ⟨j + 1, h, by omega, by go_num, by go_num, by omega, (by show _ = _; rw [HMX.out, ← HH.out]; omega)⟩
          case measure => simp [intOf]; omega
        · subst heq
          go_wp2_with fail
          go_round
          case rel => exact ⟨j + 1, 1 + Q, by omega, by go_num, by go_num, by omega, (by show _ = _; rw [HMX.out, ← HH.out]; omega)⟩
          case measure => simp [intOf]; omega
      · obtain rfl : j = m := by omega
        go_wp2_with fail
        go_ret
        refine ⟨?_, rfl⟩
        have e : h = hgt l i := by rw [HH.out, HMM.out, HKS.out, mx_full HA.out HIL.out]
        rw [← e]
        rfl
end Go.Proofs.YtihcepkdihmjoaaDoor
