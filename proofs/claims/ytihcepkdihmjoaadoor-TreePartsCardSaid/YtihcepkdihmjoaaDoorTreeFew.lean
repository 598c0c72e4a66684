/- The walks through few, and through the reference's Whole. -/
import Derived.Test.YtihcepkdihmjoaaDoorTreeRefRight2
namespace Go.Proofs.YtihcepkdihmjoaaDoor
open Go.RowKit
set_option linter.unusedVariables false

/-- few nodes, with little in each -/
def Few (l : List Nd) : Prop := l.length ≤ 60 ∧ (allK l l.length).length ≤ 200 ∧ ∀ i, i < l.length → (nd l i).s.size ≤ 40
def FewTold (l : List Nd) (w : World) (e : Ending) (w' : World) : Prop := ∃ b : Bool, e = .returned (.bool b) ∧ (b = true → Few l) ∧ w' = w
theorem FewTold.no {l : List Nd} {w : World} {e : Ending} (he : e = .returned (.bool false)) : FewTold l w e w := ⟨false, he, (fun h => by cases h), rfl⟩
theorem FewTold.yes {l : List Nd} {w : World} {e : Ending} (he : e = .returned (.bool true)) (h : Few l) : FewTold l w e w := ⟨true, he, (fun _ => h), rfl⟩
set_option maxRecDepth 100000 in
theorem few_big (a : Option Addr) (c n : Nat) (l : List Nd) (w : World) (hn : n = l.length) (hN : Nodes w a l) (hb : 60 < n) (hm : n ≤ 9223372036854775807) :
    Calls Tryd.prog 7 #[.slice a n c] w (FewTold l w) := by
  have HNL := hidden hn
  have HN := hidden hN
  clear hn hN
  go_enter Tryd.func7, Tryd.ntmps7
  go_wp2_with fail
  go_loop [3, 4] (fun t3 t4 => ∃ (i : Nat) (z : Int), i ≤ n ∧ t4 = .int .i64 (i : Int) ∧ t3 = .int .i64 z) (fun _ t4 => n - (intOf t4).toNat)
  case atStart => exact ⟨0, 0, by omega, rfl, rfl⟩
  case round =>
    obtain ⟨i, z, hi, rfl, rfl⟩ := hrel
    by_cases hin : i < n
    · have hini : (i : Int) < (n : Int) := by omega
      have HIL : Hid (i < l.length) := by show i < l.length; rw [← HNL.out]; exact hin
      obtain ⟨lb, lo, rfl, hlb, h5⟩ := HN.out.at_ HIL.out
      have hs := (HN.out.2 i HIL.out).s
      have hk := (HN.out.2 i HIL.out).len
      have c1 := h5.2.1
      have c3 := h5.2.2.2.1
      obtain ⟨x, hx⟩ : ∃ x, x = nd l i := ⟨_, rfl⟩
      rw [← hx] at hs hk c1 c3
      obtain ⟨m, hm⟩ : ∃ m, m = x.kids.length := ⟨_, rfl⟩
      obtain ⟨S, hS⟩ : ∃ S, S = x.s := ⟨_, rfl⟩
      rw [← hm] at hk c1
      rw [← hS] at hs c3
      clear hx hm hS h5
      by_cases h40 : S.size ≤ 40
      · have h40' : decide ((40 : Int) < (S.size : Int)) = false := by simp; omega
        go_wp2_with fail
        go_round
        case rel => exact ⟨i + 1, _, by omega, by go_num, rfl⟩
        case measure => simp [intOf]; omega
      · have h40' : decide ((40 : Int) < (S.size : Int)) = true := by simp; omega
        go_wp2_with fail
        go_ret
        exact FewTold.no rfl
    · have h60 : decide ((n : Int) ≤ 60) = false := by simp; omega
      go_wp2_with fail
      go_ret
      exact FewTold.no rfl
set_option maxRecDepth 100000 in
theorem few_small (a : Option Addr) (c n : Nat) (l : List Nd) (w : World) (hn : n = l.length) (hN : Nodes w a l) (hb : n ≤ 60) :
    Calls Tryd.prog 7 #[.slice a n c] w (FewTold l w) := by
  have HNL := hidden hn
  have HN := hidden hN
  clear hn hN
  go_enter Tryd.func7, Tryd.ntmps7
  go_wp2_with fail
  go_loop [3, 4] (fun t3 t4 => ∃ (i q : Nat), i ≤ n ∧ t4 = .int .i64 (i : Int) ∧ t3 = .int .i64 (q : Int) ∧ q ≤ i * 140737488351232 ∧ Hid (q = (allK l i).length) ∧ Hid (∀ j, j < i → (nd l j).s.size ≤ 40)) (fun _ t4 => n - (intOf t4).toNat)
  case atStart => exact ⟨0, 0, by omega, rfl, rfl, by omega, (by show _ = _; simp [allK]), fun j hj => by omega⟩
  case round =>
    obtain ⟨i, q, hi, rfl, rfl, hq, HQ, HF⟩ := hrel
    by_cases hin : i < n
    · have hini : (i : Int) < (n : Int) := by omega
      have HIL : Hid (i < l.length) := by show i < l.length; rw [← HNL.out]; exact hin
      obtain ⟨lb, lo, rfl, hlb, h5⟩ := HN.out.at_ HIL.out
      have hs := (HN.out.2 i HIL.out).s
      have hk := (HN.out.2 i HIL.out).len
      have c1 := h5.2.1
      have c3 := h5.2.2.2.1
      have HNX := hidden (allK_succ HIL.out)
      have HNX2 : Hid ((allK l (i + 1)).length = (allK l i).length + (nd l i).kids.length) := by show _ = _; rw [HNX.out, List.length_append]
      obtain ⟨x, hx⟩ : ∃ x, x = nd l i := ⟨_, rfl⟩
      have HX := hidden hx
      rw [← hx] at hs hk c1 c3 HNX2
      obtain ⟨m, hm⟩ : ∃ m, m = x.kids.length := ⟨_, rfl⟩
      obtain ⟨S, hS⟩ : ∃ S, S = x.s := ⟨_, rfl⟩
      rw [← hm] at hk c1 HNX2
      rw [← hS] at hs c3
      have HS : Hid (S = (nd l i).s) := by show _ = _; rw [hS, hx]
      clear hx hm hS h5 HNX
      by_cases h40 : S.size ≤ 40
      · have h40' : decide ((40 : Int) < (S.size : Int)) = false := by simp; omega
        go_wp2_with fail
        go_round
        case rel =>
          refine ⟨i + 1, q + m, by omega, by go_num, by go_num, by omega, (by show _ = _; rw [HNX2.out, HQ.out]), fun j hj => ?_⟩
          rcases Nat.lt_or_ge j i with g | g
          · exact HF.out j g
          · rw [show j = i by omega, ← HS.out]; exact h40
        case measure => simp [intOf]; omega
      · have h40' : decide ((40 : Int) < (S.size : Int)) = true := by simp; omega
        go_wp2_with fail
        go_ret
        exact FewTold.no rfl
    · obtain rfl : i = n := by omega
      have h60 : decide ((i : Int) ≤ 60) = true := by simp; omega
      by_cases h200 : q ≤ 200
      · have h200' : decide ((q : Int) ≤ 200) = true := by simp; omega
        go_wp2_with fail
        go_ret
        exact FewTold.yes (by first | rfl | simp [h200]) ⟨by rw [← HNL.out]; exact hb, by rw [← HNL.out, ← HQ.out]; exact h200, fun j hj => HF.out j (by rw [HNL.out]; exact hj)⟩
      · have h200' : decide ((q : Int) ≤ 200) = false := by simp; omega
        go_wp2_with fail
        go_ret
        exact FewTold.no (by first | rfl | simp [h200])
theorem few_any (a : Option Addr) (c n : Nat) (l : List Nd) (w : World) (hn : n = l.length) (hN : Nodes w a l) (hm : n ≤ 9223372036854775807) :
    Calls Tryd.prog 7 #[.slice a n c] w (FewTold l w) := by
  rcases Nat.lt_or_ge 60 n with h | h
  · exact few_big a c n l w hn hN h hm
  · exact few_small a c n l w hn hN h
theorem rwhole_any (a : Option Addr) (c n : Nat) (l : List Nd) (w : World) (hn : n = l.length) (hN : Nodes w a l) (hll : n ≤ 100000) :
    Calls Tryd.prog 14 #[.slice a n c] w (Tells (Wh l) w) := by
  have HNL := hidden hn
  have HN := hidden hN
  have hcall := rright_any a c n l w hn hN hll
  have HC := hidden hcall
  clear hn hN hcall
  go_enter Tryd.func14, Tryd.ntmps14
  go_wp2_with fail
  refine HC.out.mono ?_
  rintro e w1 ⟨b, rfl, hiff, hb1⟩
  have HB1 := hidden hb1
  have HIF := hidden hiff
  clear hb1 hiff
  cases b with
  | false =>
    go_wp2_with fail
    go_ret
    exact Tells.no rfl (fun h => by cases HIF.out.2 h.1) HB1.out
  | true =>
    have HR : Hid (Rt l) := HIF.out.1 rfl
    have hpos : 0 < n := by rw [HNL.out]; exact HR.out.1.1
    obtain ⟨p, rfl⟩ : ∃ p, n = p + 1 := ⟨n - 1, by omega⟩
    have hpl : p < l.length := by rw [← HNL.out]; omega
    obtain ⟨lb, lo, rfl, hlb, h5⟩ := (HN.out.below HB1.out).at_ hpl
    have c0 := h5.1
    obtain ⟨K, hK⟩ : ∃ K, K = (nd l p).kind := ⟨_, rfl⟩
    rw [← hK] at c0
    have HK : Hid ((nd l (l.length - 1)).kind = K) := by
      show _ = _
      rw [← HNL.out, Nat.add_sub_cancel, hK]
    clear hK h5 hpos
    by_cases hk : K = 26
    · have hk' : (K == 26) = true := by simp [hk]
      have HKK := hidden hk
      clear hk
      go_wp2_with fail
      go_ret
      exact Tells.yes rfl ⟨HR.out, HK.out.trans HKK.out⟩ HB1.out
    · have hk' : (K == 26) = false := by simp [hk]
      have HKK := hidden hk
      clear hk
      go_wp2_with fail
      go_ret
      exact Tells.no rfl (fun h => HKK.out (HK.out.symm.trans h.2)) HB1.out
end Go.Proofs.YtihcepkdihmjoaaDoor
