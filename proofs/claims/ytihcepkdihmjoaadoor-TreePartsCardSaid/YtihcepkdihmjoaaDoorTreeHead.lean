/- The walks through word, kindWord and head. -/
import Derived.Test.YtihcepkdihmjoaaDoorTreeHeights
import Derived.Test.YtihcepkdihmjoaaDoorShelf
import Derived.Lib.QuietBelow
namespace Go.Proofs.YtihcepkdihmjoaaDoor
open Go.RowKit
set_option linter.unusedVariables false

theorem below_grow (w : World) (k : Nat) (os : Array Obj) : Below w.heap.size w (Sort.grow (w.drewN k) os) :=
  ⟨rfl, rfl, rfl, by simp [Sort.grow, World.drewN], fun j hj => by simp [Sort.grow, World.drewN, Array.getElem?_append, hj]⟩
theorem wrd_eq (k : Nat) : wrd k = tWords.getD k [] := rfl
/-- word, of nodes of a kind -/
theorem word_any (x : Nd) (w : World) (hT : Tabs w) (h1 : 1 ≤ x.kind) (h2 : x.kind ≤ 26) (n0 : -9223372036854775808 ≤ x.n) (n1 : x.n ≤ 9223372036854775807) :
    Calls Tryd.prog 51 #[x.v] w fun e w' => e = .returned (txt (wordOf x)) ∧ Below w.heap.size w w' := by
  obtain ⟨K, ka, kc, ks, n, s, at_⟩ := x
  obtain ⟨m, hm⟩ : ∃ m, m = ks.length := ⟨_, rfl⟩
  have HV : Hid (Nd.v ⟨K, ka, kc, ks, n, s, at_⟩ = .agg #[.int .i64 K, .slice ka m kc, .int .i64 n, .string s, .int .i64 at_]) := by rw [hm]; rfl
  rw [HV.out]
  simp only at h1 h2 n0 n1
  have HT := hidden hT
  have HB : Hid (Below w.heap.size w (w.alloc (.cells #[.int .i64 K, .slice ka m kc, .int .i64 n, .string s, .int .i64 at_] 36))) := (Below.refl _ _).alloc (Nat.le_refl _) _
  have HT1 := hidden (HT.out.below HB.out)
  clear hT HV
  by_cases k1 : K = 1
  · subst k1
    have HW : Hid (wordOf ⟨1, ka, kc, ks, n, s, at_⟩ = Lib.itoa n) := rfl
    rw [HW.out]
    clear HW hm
    go_enter Tryd.func51, Tryd.ntmps51
    go_wp2_with fail
    refine (Tryd.strconv_Itoa n n0 n1 _ HT1.out.tab).mono ?_
    rintro e w1 ⟨rfl, k, os, hw1⟩
    have HB1 : Hid (Below w.heap.size w w1) := by
      rw [hw1]
      exact HB.out.trans ((below_grow _ k os).mono HB.out.size)
    clear hw1
    go_wp2_with fail
    go_ret
    exact ⟨rfl, HB1.out⟩
  by_cases k2 : K = 2
  · subst k2
    have HW : Hid (wordOf ⟨2, ka, kc, ks, n, s, at_⟩ = Lib.formatBool (n == 1)) := rfl
    rw [HW.out]
    clear HW hm
    obtain ⟨b, hb⟩ : ∃ b, b = (n == 1) := ⟨_, rfl⟩
    rw [← hb]
    have hb' := hb.symm
    clear hb
    go_enter Tryd.func51, Tryd.ntmps51
    go_wp2_with fail
    refine (Tryd.strconv_FormatBool b _).mono ?_
    rintro e w1 ⟨rfl, hw1⟩
    rw [hw1]; clear hw1 w1
    go_wp2_with fail
    go_ret
    exact ⟨rfl, HB.out⟩
  by_cases k5 : K = 5
  · subst k5
    have HW : Hid (wordOf ⟨5, ka, kc, ks, n, s, at_⟩ = sgnOf n) := rfl
    rw [HW.out]
    clear HW hm
    go_enter Tryd.func51, Tryd.ntmps51
    go_wp2_with fail
    refine (sign_any n _ HT1.out).mono ?_
    rintro e w1 ⟨rfl, hw1⟩
    rw [hw1]; clear hw1 w1
    unfold txt
    go_wp2_with fail
    go_ret
    exact ⟨rfl, HB.out⟩
  · obtain ⟨k, rfl⟩ : ∃ k : Nat, K = k := ⟨K.toNat, by omega⟩
    have HW : Hid (wordOf ⟨(k : Int), ka, kc, ks, n, s, at_⟩ = wrd k) := by
      show wordOf _ = _
      unfold wordOf
      simp only
      rw [if_neg k1, if_neg k2, if_neg k5, Int.toNat_natCast]
      rfl
    rw [HW.out]
    clear HW hm
    have t0 := cell_tab HT1.out.rows (row_word k (by omega))
    unfold txt at t0 ⊢
    obtain ⟨W, hW⟩ : ∃ W, W = wrd k := ⟨_, rfl⟩
    rw [← hW] at t0 ⊢
    clear hW
    have e1 : ((k : Int) == 1) = false := by simpa using k1
    have e2 : ((k : Int) == 2) = false := by simpa using k2
    have e5 : ((k : Int) == 5) = false := by simpa using k5
    have hk27 : (k : Int) < 27 := by omega
    clear k1 k2 k5
    go_enter Tryd.func51, Tryd.ntmps51
    go_wp2_with fail
    go_ret
    exact ⟨rfl, HB.out⟩
theorem num4 : ∀ k : Fin 27, numOf k.val = 4 ↔ ((k.val : Int) = 24 ∨ (k.val : Int) = 25) := by decide +kernel
theorem kindWord_any (x : Nd) (w : World) (hT : Tabs w) (h1 : 1 ≤ x.kind) (h2 : x.kind ≤ 26) :
    Calls Tryd.prog 52 #[x.v] w fun e w' => e = .returned (txt (kwOf x)) ∧ Below w.heap.size w w' := by
  obtain ⟨K, ka, kc, ks, n, s, at_⟩ := x
  simp only at h1 h2
  obtain ⟨k, rfl⟩ : ∃ k : Nat, K = k := ⟨K.toNat, by omega⟩
  obtain ⟨m, hm⟩ : ∃ m, m = ks.length := ⟨_, rfl⟩
  have HV : Hid (Nd.v ⟨(k : Int), ka, kc, ks, n, s, at_⟩ = .agg #[.int .i64 (k : Int), .slice ka m kc, .int .i64 n, .string s, .int .i64 at_]) := by rw [hm]; rfl
  rw [HV.out]
  have HT := hidden hT
  have HB : Hid (Below w.heap.size w (w.alloc (.cells #[.int .i64 (k : Int), .slice ka m kc, .int .i64 n, .string s, .int .i64 at_] 36))) := (Below.refl _ _).alloc (Nat.le_refl _) _
  have HT1 := hidden (HT.out.below HB.out)
  have hk27 : (k : Int) < 27 := by omega
  have t0 := cell_tab HT1.out.rows (row_num k (by omega))
  have h4 := num4 ⟨k, by omega⟩
  simp only at h4
  clear hT HV
  by_cases hk : (k : Int) = 24 ∨ (k : Int) = 25
  · rw [h4.2 hk] at t0
    have HW : Hid (kwOf ⟨(k : Int), ka, kc, ks, n, s, at_⟩ = kindW n) := by
      show kwOf _ = _
      unfold kwOf
      simp only
      rw [if_pos hk]
    rw [HW.out]
    clear HW hm hk h4
    go_enter Tryd.func52, Tryd.ntmps52
    go_wp2_with fail
    refine (kind_any n _ HT1.out).mono ?_
    rintro e w1 ⟨rfl, hw1⟩
    rw [hw1]; clear hw1 w1
    unfold txt
    go_wp2_with fail
    go_ret
    exact ⟨rfl, HB.out⟩
  · have hne : ¬ numOf k = 4 := fun h => hk (h4.1 h)
    obtain ⟨u, hu⟩ : ∃ u, u = numOf k := ⟨_, rfl⟩
    rw [← hu] at t0 hne
    have hne' : ((u : Int) != 4) = true := by simp; omega
    have HW : Hid (kwOf ⟨(k : Int), ka, kc, ks, n, s, at_⟩ = []) := by
      show kwOf _ = _
      unfold kwOf
      simp only
      rw [if_neg hk]
    rw [HW.out]
    clear HW hm hk h4 hu hne
    go_enter Tryd.func52, Tryd.ntmps52
    go_wp2_with fail
    go_ret
    exact ⟨rfl, HB.out⟩
end Go.Proofs.YtihcepkdihmjoaaDoor
