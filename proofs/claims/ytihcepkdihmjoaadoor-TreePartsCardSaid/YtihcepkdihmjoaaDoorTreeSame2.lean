/- The walks through EqualFunc, Alike and the reference's SameNodes. -/
import Derived.Test.YtihcepkdihmjoaaDoorTreeSame
namespace Go.Proofs.YtihcepkdihmjoaaDoor
open Go.RowKit
set_option linter.unusedVariables false

theorem Al.no_len {a b : List Nd} (h : a.length ≠ b.length) : ¬ Al a b := fun e => h e.1
theorem Al.no_at {a b : List Nd} {j : Nat} (hj : j < a.length) (h : ¬ Sm (nd a j) (nd b j)) : ¬ Al a b := fun e => h (e.2 j hj)
theorem cells_txt {w : World} {b o : Nat} {x : Nd} (h : Cells5 w b o x) : w.cell? ⟨b, o + 3, none⟩ = some (.string ⟨x.t.toArray⟩) := by
  rw [h.2.2.2.1, string_of x.s]; rfl
set_option maxRecDepth 100000 in
set_option maxHeartbeats 8000000 in
theorem equalFunc_any (a b : Option Addr) (c d n m : Nat) (l r : List Nd) (w : World) (hn : n = l.length) (hm : m = r.length) (hL : Nodes w a l) (hR : Nodes w b r) (hll : n ≤ 1000000000) (hrl : m ≤ 1000000000) :
    Calls Tryd.prog 38 #[.slice a n c, .slice b m d, .func (.func 39) #[] #[]] w (Tells (Al l r) w) := by
  have HNL := hidden hn
  have HMR := hidden hm
  have HL := hidden hL
  have HR := hidden hR
  clear hn hm hL hR
  by_cases hnm : n = m
  · subst hnm
    go_enter Tryd.func38, Tryd.ntmps38
    go_wp2_with fail
    go_loopw [7, 8, 17] (fun _ _ t wr => ∃ i : Nat, i ≤ n ∧ t = .int .i64 (i : Int) ∧ Hid (∀ j, j < i → Sm (nd l j) (nd r j)) ∧ Hid (Below w.heap.size w wr)) (fun _ _ t _ => n - (intOf t).toNat)
    case atStart => exact ⟨0, by omega, rfl, (fun j hj => by omega), Below.refl _ _⟩
    case round =>
      obtain ⟨i, hi, rfl, HS, HB⟩ := hrel
      by_cases hil : i < n
      · have hili : (i : Int) < (n : Int) := by omega
        have HIL : Hid (i < l.length) := by show i < _; rw [← HNL.out]; exact hil
        have HIR : Hid (i < r.length) := by show i < _; rw [← HMR.out]; exact hil
        obtain ⟨lb, lo, rfl, hlb, hl5⟩ := (HL.out.below HB.out).at_ HIL.out
        obtain ⟨rb, ro, rfl, hrb, hr5⟩ := (HR.out.below HB.out).at_ HIR.out
        have HOL := hidden ((HL.out.below HB.out).2 i HIL.out)
        have HOR := hidden ((HR.out.below HB.out).2 i HIR.out)
        obtain ⟨x, hx⟩ : ∃ x, x = nd l i := ⟨_, rfl⟩
        obtain ⟨y, hy⟩ : ∃ y, y = nd r i := ⟨_, rfl⟩
        rw [← hx] at hl5 HOL
        rw [← hy] at hr5 HOR
        have HX := hidden hx
        have HY := hidden hy
        clear hx hy
        have a0 := hl5.1
        have a1 := hl5.2.1
        have a2 := hl5.2.2.1
        have a3 := cells_txt hl5
        have a4 := hl5.2.2.2.2
        have b0 := hr5.1
        have b1 := hr5.2.1
        have b2 := hr5.2.2.1
        have b3 := cells_txt hr5
        have b4 := hr5.2.2.2.2
        clear hl5 hr5
        have HV := hidden (v_txt x)
        have HV2 := hidden (v_txt y)
        go_wp2_with fail
        obtain ⟨w2, hw2⟩ : ∃ w2, w2 = (wr.alloc (.cells #[.int .i64 x.kind, .slice x.ka x.kids.length x.kc, .int .i64 x.n, .string ⟨x.t.toArray⟩, .int .i64 x.at_] 36)).alloc (.cells #[.int .i64 y.kind, .slice y.ka y.kids.length y.kc, .int .i64 y.n, .string ⟨y.t.toArray⟩, .int .i64 y.at_] 36) := ⟨_, rfl⟩
        have HB2 : Hid (Below wr.heap.size wr w2) := by rw [hw2]; exact ((Below.refl _ _).alloc (Nat.le_refl _) _).alloc (by simp) _
        rw [← hw2]
        have hcall := alike1_any x y w2 (HOL.out.below HB2.out) (HOR.out.below HB2.out)
        rw [HV.out, HV2.out] at hcall
        have HC := hidden hcall
        clear hcall hw2 a0 a1 a2 a3 a4 b0 b1 b2 b3 b4
        refine HC.out.mono ?_
        rintro e w3 ⟨bb, rfl, hiff, hb3⟩
        have HB3 : Hid (Below w.heap.size w w3) := HB.out.trans ((HB2.out.trans (hb3.mono HB2.out.size)).mono HB.out.size)
        have HIF := hidden hiff
        clear hiff hb3
        cases bb with
        | false =>
          go_wp2_with fail
          go_ret
          exact Tells.no rfl (Al.no_at HIL.out (fun h => by
            rw [← HX.out, ← HY.out] at h
            cases HIF.out.2 h)) HB3.out
        | true =>
          have HSM : Hid (Sm x y) := HIF.out.1 rfl
          clear HIF
          go_wp2_with fail
          go_roundw
          case rel =>
            refine ⟨i + 1, by omega, by go_num, (fun j hj => ?_), HB3⟩
            rcases Nat.lt_or_ge j i with g | g
            · exact HS.out j g
            · rw [show j = i by omega, ← HX.out, ← HY.out]; exact HSM.out
          case measure => simp [intOf]; omega
      · go_wp2_with fail
        go_ret
        exact Tells.yes rfl ⟨by rw [← HNL.out]; exact HMR.out, fun j hj => HS.out j (by rw [← HNL.out] at hj; omega)⟩ HB.out
  · have hne : ((n : Int) != (m : Int)) = true := by simp; omega
    have HNM := hidden hnm
    clear hnm
    go_enter Tryd.func38, Tryd.ntmps38
    go_wp2_with fail
    go_ret
    exact Tells.no rfl (Al.no_len (by rw [← HNL.out, ← HMR.out]; exact HNM.out)) (Below.refl _ _)
theorem alike_any (a b : Option Addr) (c d n m : Nat) (l r : List Nd) (w : World) (hn : n = l.length) (hm : m = r.length) (hL : Nodes w a l) (hR : Nodes w b r) (hll : n ≤ 1000000000) (hrl : m ≤ 1000000000) :
    Calls Tryd.prog 22 #[.slice a n c, .slice b m d] w (Tells (Al l r) w) := by
  have HC := hidden (equalFunc_any a b c d n m l r w hn hm hL hR hll hrl)
  clear hn hm hL hR
  go_enter Tryd.func22, Tryd.ntmps22
  go_wp2_with fail
  refine HC.out.mono ?_
  rintro e w1 ⟨bb, rfl, hiff, hb⟩
  have HIF := hidden hiff
  have HB := hidden hb
  clear hiff hb
  go_wp2_with fail
  go_ret
  exact ⟨bb, rfl, HIF.out, HB.out⟩
end Go.Proofs.YtihcepkdihmjoaaDoor
