/- The walks through Alike, what it calls, and the reference's SameNodes. -/
import Derived.Test.YtihcepkdihmjoaaDoorTreeSim
import Derived.Test.YtihcepkdihmjoaaDoorTreeTellsWalk
namespace Go.Proofs.YtihcepkdihmjoaaDoor
open Go.RowKit
set_option linter.unusedVariables false

theorem eqInts_any (ka kb : Option Addr) (n m c d : Nat) (xs ys : List Int) (w : World) (hn : n = xs.length) (hm : m = ys.length) (hx : Rows' .i64 w ka n (fun j => xs.getD j 0)) (hy : Rows' .i64 w kb m (fun j => ys.getD j 0)) (hxl : n ≤ 140737488351232) (hyl : m ≤ 140737488351232) :
    Calls Tryd.prog 40 #[.slice ka n c, .slice kb m d] w fun e w' => e = .returned (.bool (decide (xs = ys))) ∧ ∃ q, w' = w.drewN q := by
  by_cases hne : n = m
  · rcases Nat.eq_zero_or_pos n with h0 | h0
    · have e : xs = ys := by
        rw [List.length_eq_zero_iff.1 (hn.symm.trans h0), List.length_eq_zero_iff.1 (hm.symm.trans (hne.symm.trans h0))]
      rw [h0]
      refine (Tryd.slices_Equal_int_empty ka kb c m d w (by omega)).mono ?_
      rintro e' w1 ⟨rfl, hw1⟩
      refine ⟨?_, 0, hw1⟩
      rw [decide_eq_true e, decide_eq_true (show m = 0 by omega)]
    · obtain ⟨b1, o1, rfl, _, h1⟩ := hx h0
      obtain ⟨b2, o2, rfl, _, h2⟩ := hy (by omega)
      refine (Tryd.slices_Equal_int b1 o1 n c b2 o2 m d xs ys w (by omega) (by omega) (by omega) (by omega) (fun j hj => h1 j (by omega)) (fun j hj => h2 j (by omega))).mono ?_
      rintro e' w1 ⟨rfl, hw1⟩
      refine ⟨?_, hw1⟩
      rw [hn, hm, List.take_length, List.take_length]
      congr 2
      by_cases hxy : xs = ys
      · simp [hxy]
      · simp [hxy]
  · have e : xs ≠ ys := fun e => hne (by rw [hn, hm, e])
    refine (Tryd.slices_Equal_int_lens ka kb n c m d w hne).mono ?_
    rintro e' w1 ⟨rfl, hw1⟩
    exact ⟨by rw [decide_eq_false e], 0, hw1⟩
instance (x y : Nd) : Decidable (Sm x y) := by unfold Sm; infer_instance
theorem Sm.no_kind {x y : Nd} (h : ¬ x.kind = y.kind) : ¬ Sm x y := fun e => h e.1
theorem Sm.no_n {x y : Nd} (h : ¬ x.n = y.n) : ¬ Sm x y := fun e => h e.2.1
theorem Sm.no_t {x y : Nd} (h : ¬ x.t = y.t) : ¬ Sm x y := fun e => h e.2.2.1
theorem Sm.iff {x y : Nd} (h1 : x.kind = y.kind) (h2 : x.n = y.n) (h3 : x.t = y.t) : x.kids = y.kids ↔ Sm x y := ⟨fun h => ⟨h1, h2, h3, h⟩, fun h => h.2.2.2⟩
theorem v_txt (x : Nd) : x.v = .agg #[.int .i64 x.kind, .slice x.ka x.kids.length x.kc, .int .i64 x.n, .string ⟨x.t.toArray⟩, .int .i64 x.at_] := by
  show Value.agg #[_, _, _, Value.string x.s, _] = _
  rw [string_of x.s]; rfl
set_option maxRecDepth 100000 in
set_option maxHeartbeats 8000000 in
theorem alike1_any (x y : Nd) (w : World) (hx : Ok w x) (hy : Ok w y) :
    Calls Tryd.prog 39 #[x.v, y.v] w (Tells (Sm x y) w) := by
  rw [v_txt x, v_txt y]
  have HX := hidden hx
  have HY := hidden hy
  have hxl := hx.len
  have hyl := hy.len
  clear hx hy
  obtain ⟨w1, hw1⟩ : ∃ w1, w1 = (w.alloc (.cells #[.int .i64 x.kind, .slice x.ka x.kids.length x.kc, .int .i64 x.n, .string ⟨x.t.toArray⟩, .int .i64 x.at_] 36)).alloc (.cells #[.int .i64 y.kind, .slice y.ka y.kids.length y.kc, .int .i64 y.n, .string ⟨y.t.toArray⟩, .int .i64 y.at_] 36) := ⟨_, rfl⟩
  have HB : Hid (Below w.heap.size w w1) := by rw [hw1]; exact ((Below.refl _ _).alloc (Nat.le_refl _) _).alloc (by simp) _
  by_cases k1 : x.kind = y.kind
  · by_cases k2 : x.n = y.n
    · by_cases k3 : x.t = y.t
      · have HIF := hidden (Sm.iff k1 k2 k3)
        have e1 : (x.kind == y.kind) = true := by simpa using k1
        have e2 : (x.n == y.n) = true := by simpa using k2
        have e3 : (x.t == y.t) = true := by simpa using k3
        have t1 : (⟨x.t.toArray⟩ : ByteArray).toList = x.t := toList_mk _
        have t2 : (⟨y.t.toArray⟩ : ByteArray).toList = y.t := toList_mk _
        clear k1 k2 k3
        go_enter Tryd.func39, Tryd.ntmps39
        go_wp2_with fail
        rw [← hw1]
        refine (eqInts_any x.ka y.ka x.kids.length y.kids.length x.kc y.kc x.kids y.kids w1 rfl rfl (HX.out.below HB.out).rows (HY.out.below HB.out).rows hxl hyl).mono ?_
        rintro e w2 ⟨rfl, q, hw2⟩
        have HB2 : Hid (Below w.heap.size w w2) := by rw [hw2]; exact HB.out.trans (below_drewN _ _ _)
        obtain ⟨B, hB⟩ : ∃ B, B = decide (x.kids = y.kids) := ⟨_, rfl⟩
        rw [← hB]
        have HBB := hidden hB
        clear hw2 hB hw1
        go_wp2_with fail
        go_ret
        refine ⟨B, rfl, ?_, HB2.out⟩
        rw [HBB.out, decide_eq_true_eq]
        exact HIF.out
      · have HNO := hidden (Sm.no_t k3)
        have e1 : (x.kind == y.kind) = true := by simpa using k1
        have e2 : (x.n == y.n) = true := by simpa using k2
        have e3 : (x.t == y.t) = false := by simpa using k3
        have t1 : (⟨x.t.toArray⟩ : ByteArray).toList = x.t := toList_mk _
        have t2 : (⟨y.t.toArray⟩ : ByteArray).toList = y.t := toList_mk _
        clear k1 k2 k3
        go_enter Tryd.func39, Tryd.ntmps39
        go_wp2_with fail
        go_ret
        exact Tells.no rfl HNO.out (by rw [← hw1]; exact HB.out)
    · have HNO := hidden (Sm.no_n k2)
      have e1 : (x.kind == y.kind) = true := by simpa using k1
      have e2 : (x.n == y.n) = false := by simpa using k2
      clear k1 k2
      go_enter Tryd.func39, Tryd.ntmps39
      go_wp2_with fail
      go_ret
      exact Tells.no rfl HNO.out (by rw [← hw1]; exact HB.out)
  · have HNO := hidden (Sm.no_kind k1)
    have e1 : (x.kind == y.kind) = false := by simpa using k1
    clear k1
    go_enter Tryd.func39, Tryd.ntmps39
    go_wp2_with fail
    go_ret
    exact Tells.no rfl HNO.out (by rw [← hw1]; exact HB.out)
end Go.Proofs.YtihcepkdihmjoaaDoor
