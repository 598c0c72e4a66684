/- TreeSim, TreeSame, TreeSame2, TreeSame3, in one text. -/
import Derived.Test.YtagacfcpepoaoaaDoorTreeTl1
import Derived.Test.YtagacfcpepoaoaaDoorTreeTl2
namespace Go.Proofs.YtagacfcpepoaoaaDoor
set_option linter.unusedVariables false

/-- nodes that are the same but for At -/
def Sm (x y : Nd) : Prop := x.kind = y.kind ∧ x.n = y.n ∧ x.t = y.t ∧ x.kids = y.kids
/-- lists that are alike -/
def Al (a b : List Nd) : Prop := a.length = b.length ∧ ∀ j, j < a.length → Sm (nd a j) (nd b j)
theorem Sm.refl (x : Nd) : Sm x x := ⟨rfl, rfl, rfl, rfl⟩
theorem nd_out {l : List Nd} {i : Nat} (h : ¬ i < l.length) : nd l i = Nd.zero := by
  unfold nd
  rw [List.getD_eq_getElem?_getD, List.getElem?_eq_none (by omega)]
  rfl
theorem Al.all {a b : List Nd} (h : Al a b) (j : Nat) : Sm (nd a j) (nd b j) := by
  by_cases hj : j < a.length
  · exact h.2 j hj
  · rw [nd_out hj, nd_out (by rw [← h.1]; exact hj)]; exact Sm.refl _
theorem Al.symm {a b : List Nd} (h : Al a b) : Al b a := ⟨h.1.symm, fun j _ => by obtain ⟨h1, h2, h3, h4⟩ := h.all j; exact ⟨h1.symm, h2.symm, h3.symm, h4.symm⟩⟩
theorem Al.allK {a b : List Nd} (h : Al a b) : ∀ i, i ≤ a.length → allK a i = allK b i
  | 0, _ => by simp [Proofs.YtagacfcpepoaoaaDoor.allK]
  | i + 1, hi => by
    rw [allK_succ (by omega), allK_succ (by rw [← h.1]; omega), h.allK i (by omega), (h.all i).2.2.2]
theorem Al.ahead {a b : List Nd} (h : Al a b) (hA : Ahead a) : Ahead b := by
  intro i hi k hk
  rw [← (h.all i).2.2.2] at hk
  exact hA i (by rw [h.1]; exact hi) k hk
theorem Al.fold {α : Type} {f : Nd → List α → α} (hf : ∀ x y ts, Sm x y → f x ts = f y ts) {a b : List Nd} (h : Al a b) : ∀ g i, fold f a g i = fold f b g i
  | 0, i => hf _ _ _ (h.all i)
  | g + 1, i => by
    simp only [Proofs.YtagacfcpepoaoaaDoor.fold]
    rw [hf _ _ _ (h.all i), (h.all i).2.2.2]
    congr 1
    apply List.map_congr_left
    intro k _
    exact h.fold hf g k.toNat
theorem Al.hgt {a b : List Nd} (h : Al a b) (i : Nat) : hgt a i = hgt b i := h.fold (fun _ _ _ _ => rfl) i i
theorem Sm.hd {x y : Nd} (h : Sm x y) : hd x = hd y := by
  obtain ⟨h1, h2, h3, _⟩ := h
  unfold Proofs.YtagacfcpepoaoaaDoor.hd wordOf kwOf
  rw [h1, h2, h3]
theorem Al.tx {a b : List Nd} (h : Al a b) (i : Nat) : tx a i = tx b i := h.fold (fun x y ts hs => by unfold txf; rw [hs.1, hs.hd]) i i
theorem Al.ist {a b : List Nd} (h : Al a b) (hT : IsT a) : IsT b := by
  obtain ⟨h0, hA, hN, hL⟩ := hT
  rw [h.allK _ (Nat.le_refl _), h.1] at hN hL
  rw [h.1] at h0
  exact ⟨h0, h.ahead hA, hN, hL⟩
theorem Al.fit {a b : List Nd} (h : Al a b) (i : Nat) (hat : 0 ≤ (nd a i).at_ ↔ 0 ≤ (nd b i).at_) : fitB a (nd a i) = fitB b (nd b i) := by
  obtain ⟨h1, h2, h3, h4⟩ := h.all i
  have hk : kk a (nd a i) = kk b (nd b i) := by
    unfold kk
    rw [h4]
    apply List.map_congr_left
    intro k _
    exact (h.all k.toNat).1
  unfold fitB ownB
  rw [hk, h1, h2, h3]
  congr 4
  simpa using hat
theorem Al.rt {a b : List Nd} (h : Al a b) (hat : ∀ i, 0 ≤ (nd a i).at_ ↔ 0 ≤ (nd b i).at_) (hR : Rt a) : Rt b := by
  obtain ⟨hT, hF, hH⟩ := hR
  refine ⟨h.ist hT, fun i hi => ?_, ?_⟩
  · rw [← h.fit i (hat i)]
    exact hF i (by rw [h.1]; exact hi)
  · rw [← h.1, ← h.hgt]; exact hH
end Go.Proofs.YtagacfcpepoaoaaDoor

namespace Go.Proofs.YtagacfcpepoaoaaDoor
open Go.RowKit
set_option linter.unusedVariables false

theorem Sm.no_kind {x y : Nd} (h : ¬ x.kind = y.kind) : ¬ Sm x y := fun e => h e.1
theorem Sm.no_n {x y : Nd} (h : ¬ x.n = y.n) : ¬ Sm x y := fun e => h e.2.1
theorem Sm.no_t {x y : Nd} (h : ¬ x.t = y.t) : ¬ Sm x y := fun e => h e.2.2.1
theorem Sm.iff {x y : Nd} (h1 : x.kind = y.kind) (h2 : x.n = y.n) (h3 : x.t = y.t) : x.kids = y.kids ↔ Sm x y := ⟨fun h => ⟨h1, h2, h3, h⟩, fun h => h.2.2.2⟩
end Go.Proofs.YtagacfcpepoaoaaDoor

namespace Go.Proofs.YtagacfcpepoaoaaDoor
open Go.RowKit
set_option linter.unusedVariables false

theorem Al.no_len {a b : List Nd} (h : a.length ≠ b.length) : ¬ Al a b := fun e => h e.1
theorem Al.no_at {a b : List Nd} {j : Nat} (hj : j < a.length) (h : ¬ Sm (nd a j) (nd b j)) : ¬ Al a b := fun e => h (e.2 j hj)
theorem cells_txt {w : World} {b o : Nat} {x : Nd} (h : Cells5 w b o x) : w.cell? ⟨b, o + 3, none⟩ = some (.string ⟨x.t.toArray⟩) := by
  rw [h.2.2.2.1, string_of x.s]; rfl
end Go.Proofs.YtagacfcpepoaoaaDoor

namespace Go.Proofs.YtagacfcpepoaoaaDoor
open Go.RowKit
set_option linter.unusedVariables false

theorem sameKids (ka kb : Option Addr) (c d : Nat) (xs ys : List Int) (w : World) (hx : Rows' .i64 w ka xs.length (fun j => xs.getD j 0)) (hy : Rows' .i64 w kb ys.length (fun j => ys.getD j 0)) (hxl : xs.length ≤ 100000) (hyl : ys.length ≤ 100000) :
    Calls Tryd.prog 21 #[.slice ka xs.length c, .slice kb ys.length d] w fun e w' => e = .returned (.bool (decide (xs = ys))) ∧ ∃ q, w' = w.drewN q :=
  sameInts_list ka kb xs.length ys.length c d xs ys w rfl rfl hxl hyl hx hy
set_option maxRecDepth 100000 in
set_option maxHeartbeats 8000000 in
theorem sameNodes_any (a b : Option Addr) (c d n m : Nat) (l r : List Nd) (w : World) (hn : n = l.length) (hm : m = r.length) (hL : Nodes w a l) (hR : Nodes w b r) (hll : n ≤ 1000000000) (hrl : m ≤ 1000000000) (hkl : ∀ i, i < l.length → (nd l i).kids.length ≤ 100000) (hkr : ∀ i, i < r.length → (nd r i).kids.length ≤ 100000) :
    Calls Tryd.prog 11 #[.slice a n c, .slice b m d] w (Tells (Al l r) w) := by
  have HNL := hidden hn
  have HMR := hidden hm
  have HL := hidden hL
  have HR := hidden hR
  have HKL := hidden hkl
  have HKR := hidden hkr
  clear hn hm hL hR hkl hkr
  by_cases hnm : n = m
  · subst hnm
    go_enter Tryd.func11, Tryd.ntmps11
    go_wp2_with fail
    go_loopw [5] (fun t wr => ∃ i : Nat, i ≤ n ∧ t = .int .i64 (i : Int) ∧ Hid (∀ j, j < i → Sm (nd l j) (nd r j)) ∧ Hid (Below w.heap.size w wr)) (fun t _ => n - (intOf t).toNat)
    case atStart => exact ⟨0, by omega, rfl, (fun j hj => by omega), Below.refl _ _⟩
    case round =>
      obtain ⟨i, hi, rfl, HS, HB⟩ := hrel
      by_cases hil : i < n
      · have hili : (i : Int) < (n : Int) := by omega
        have HIL : Hid (i < l.length) := by show i < _; rw [← HNL.out]; exact hil
        have HIR : Hid (i < r.length) := by show i < _; rw [← HMR.out]; exact hil
        obtain ⟨lb, lo, rfl, hlb, hl5⟩ := (HL.out.below HB.out).at_ HIL.out
        obtain ⟨rb, ro, rfl, hrb, hr5⟩ := (HR.out.below HB.out).at_ HIR.out
        have HOL := hidden ((HL.out.below HB.out).2 i HIL.out)
        have HOR := hidden ((HR.out.below HB.out).2 i HIR.out)
        have hlk := HKL.out i HIL.out
        have hrk := HKR.out i HIR.out
        obtain ⟨x, hx⟩ : ∃ x, x = nd l i := ⟨_, rfl⟩
        obtain ⟨y, hy⟩ : ∃ y, y = nd r i := ⟨_, rfl⟩
        rw [← hx] at hl5 HOL hlk
        rw [← hy] at hr5 HOR hrk
        have HX := hidden hx
        have HY := hidden hy
        clear hx hy
        have a0 := hl5.1
        have a1 := hl5.2.1
        have a2 := hl5.2.2.1
        have a3 := cells_txt hl5
        have b0 := hr5.1
        have b1 := hr5.2.1
        have b2 := hr5.2.2.1
        have b3 := cells_txt hr5
        clear hl5 hr5
        have HC := hidden (fun q : Nat => sameKids x.ka y.ka x.kc y.kc x.kids y.kids (wr.drewN q) (HOL.out.rows.drewN q) (HOR.out.rows.drewN q) hlk hrk)
        obtain ⟨B, hB⟩ : ∃ B, B = decide (x.kids = y.kids) := ⟨_, rfl⟩
        rw [← hB] at HC
        have HBB := hidden hB
        clear hB
        have t1 : (⟨x.t.toArray⟩ : ByteArray).toList = x.t := toList_mk _
        have t2 : (⟨y.t.toArray⟩ : ByteArray).toList = y.t := toList_mk _
        obtain ⟨P, hP⟩ : ∃ P, P = x.t := ⟨_, rfl⟩
        obtain ⟨Q, hQ⟩ : ∃ Q, Q = y.t := ⟨_, rfl⟩
        rw [← hP] at a3 t1
        rw [← hQ] at b3 t2
        have HP := hidden hP
        have HQ := hidden hQ
        clear hP hQ
        by_cases k1 : x.kind = y.kind
        · by_cases k2 : x.n = y.n
          · by_cases k3 : P = Q
            · have HIF := hidden (Sm.iff k1 k2 (by rw [← HP.out, ← HQ.out]; exact k3))
              have e1 : (x.kind != y.kind) = false := by simpa using k1
              have e2 : (x.n != y.n) = false := by simpa using k2
              subst k3
              clear k1 k2
              cases B with
              | true =>
                go_wp2_with fail
                go_quiet (first | (go_at_call 21; refine Calls.quiet_of (HC.out _)))
                go_wp2_with fail
                go_roundw
                case rel =>
                  refine ⟨i + 1, by omega, by go_num, (fun j hj => ?_), HB.out.trans (below_drewN _ _ _)⟩
                  rcases Nat.lt_or_ge j i with g | g
                  · exact HS.out j g
                  · rw [show j = i by omega, ← HX.out, ← HY.out]; exact HIF.out.1 (of_decide_eq_true HBB.out.symm)
                case measure => simp [intOf]; omega
              | false =>
                go_wp2_with fail
                go_quiet (first | (go_at_call 21; refine Calls.quiet_of (HC.out _)))
                go_wp2_with fail
                go_ret
                exact Tells.no rfl (Al.no_at HIL.out (fun h => by
                  rw [← HX.out, ← HY.out] at h
                  exact of_decide_eq_false HBB.out.symm (HIF.out.2 h))) (HB.out.trans (below_drewN _ _ _))
            · have HNO : Hid (¬ Sm x y) := Sm.no_t (by rw [← HP.out, ← HQ.out]; exact k3)
              have e1 : (x.kind != y.kind) = false := by simpa using k1
              have e2 : (x.n != y.n) = false := by simpa using k2
              have e3 : (P != Q) = true := by simpa using k3
              have e4 : (P == Q) = false := by simpa using k3
              clear k1 k2 k3
              go_wp2_with fail
              go_quiet (first | (go_at_call 21; refine Calls.quiet_of (HC.out _)))
              go_wp2_with fail
              go_ret
              exact Tells.no rfl (Al.no_at HIL.out (fun h => by
                rw [← HX.out, ← HY.out] at h
                exact HNO.out h)) (HB.out.trans (below_drewN _ _ _))
          · have HNO : Hid (¬ Sm x y) := Sm.no_n k2
            have e1 : (x.kind != y.kind) = false := by simpa using k1
            have e2 : (x.n != y.n) = true := by simpa using k2
            clear k1 k2
            go_wp2_with fail
            go_quiet (first | (go_at_call 21; refine Calls.quiet_of (HC.out _)))
            go_wp2_with fail
            go_ret
            exact Tells.no rfl (Al.no_at HIL.out (fun h => by
              rw [← HX.out, ← HY.out] at h
              exact HNO.out h)) (HB.out.trans (below_drewN _ _ _))
        · have HNO : Hid (¬ Sm x y) := Sm.no_kind k1
          have e1 : (x.kind != y.kind) = true := by simpa using k1
          clear k1
          go_wp2_with fail
          go_quiet (first | (go_at_call 21; refine Calls.quiet_of (HC.out _)))
          go_wp2_with fail
          go_ret
          exact Tells.no rfl (Al.no_at HIL.out (fun h => by
            rw [← HX.out, ← HY.out] at h
            exact HNO.out h)) (HB.out.trans (below_drewN _ _ _))
      · go_wp2_with fail
        go_ret
        exact Tells.yes rfl ⟨by rw [← HNL.out]; exact HMR.out, fun j hj => HS.out j (by rw [← HNL.out] at hj; omega)⟩ HB.out
  · have hne : ((n : Int) != (m : Int)) = true := by simp; omega
    have HNM := hidden hnm
    clear hnm
    go_enter Tryd.func11, Tryd.ntmps11
    go_wp2_with fail
    go_ret
    exact Tells.no rfl (Al.no_len (by rw [← HNL.out, ← HMR.out]; exact HNM.out)) (Below.refl _ _)
end Go.Proofs.YtagacfcpepoaoaaDoor
