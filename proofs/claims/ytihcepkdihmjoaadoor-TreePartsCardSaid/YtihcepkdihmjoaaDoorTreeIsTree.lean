/- The walk through tree's isTree. -/
import Derived.Test.YtihcepkdihmjoaaDoorTreeCount
import Derived.Test.YtihcepkdihmjoaaDoorTreeRefKids
namespace Go.Proofs.YtihcepkdihmjoaaDoor
open Go.RowKit
set_option linter.unusedVariables false

/-- a row of n bools in a block of one's own -/
def Bools (w : World) (g n : Nat) (f : Nat → Bool) : Prop := ∃ cs : Array Value, w.heap[g]? = some (.cells cs 4 (0, 0)) ∧ n ≤ cs.size ∧ ∀ j, j < n → cs[j]? = some (.bool (f j))
theorem Bools.cell {w : World} {g n : Nat} {f : Nat → Bool} (h : Bools w g n f) {j : Nat} (hj : j < n) : w.cell? ⟨g, j, none⟩ = some (.bool (f j)) := by
  obtain ⟨cs, hb, _, hc⟩ := h
  simp [World.cell?, hb, hc j hj]
theorem Bools.frozen {w : World} {g n : Nat} {f : Nat → Bool} (h : Bools w g n f) (j : Nat) : w.frozen? ⟨g, j, none⟩ = false := by
  obtain ⟨cs, hb, _, _⟩ := h
  simp [World.frozen?, hb]
theorem Bools.lt {w : World} {g n : Nat} {f : Nat → Bool} (h : Bools w g n f) : g < w.heap.size := by
  obtain ⟨cs, hb, _, _⟩ := h
  exact (Array.getElem?_eq_some_iff.1 hb).1
theorem Bools.below {w w' : World} {g n : Nat} {f : Nat → Bool} (h : Bools w g n f) (hb : Below w.heap.size w w') : Bools w' g n f := by
  have hlt := h.lt
  obtain ⟨cs, h1, h2, h3⟩ := h
  exact ⟨cs, (hb.block g hlt).trans h1, h2, h3⟩
theorem Bools.congr {w : World} {g n : Nat} {f f' : Nat → Bool} (h : Bools w g n f) (e : ∀ j, j < n → f j = f' j) : Bools w g n f' := by
  obtain ⟨cs, hb, hn, hc⟩ := h
  exact ⟨cs, hb, hn, fun j hj => by rw [hc j hj, e j hj]⟩
theorem Bools.set {w : World} {g n : Nat} {f : Nat → Bool} (h : Bools w g n f) (i : Nat) (x : Bool) : Bools (w.setCell ⟨g, i, none⟩ (.bool x)) g n (fun j => if j = i then x else f j) := by
  obtain ⟨cs, hb, hn, hc⟩ := h
  refine ⟨cs.setIfInBounds i (.bool x), ?_, by simpa using hn, fun j hj => ?_⟩
  · simp [World.setCell, Array.getElem?_modify, hb]
  · rw [Array.getElem?_setIfInBounds]
    by_cases e : j = i
    · subst e
      simp [show j < cs.size by omega]
    · rw [if_neg (fun h => e h.symm)]
      show cs[j]? = some (.bool (if j = i then x else f j))
      rw [if_neg e]
      exact hc j hj
theorem Bools.made (w : World) (n : Nat) : Bools (w.alloc (.cells (madeCells #[.bool false] n) 4)) w.heap.size n (fun _ => false) := by
  obtain ⟨c, hb, hn, hc⟩ := World.rowIs_made w (.bool false) n 4
  exact ⟨c, hb, by omega, hc⟩
/-- who was seen -/
def mark (xs : List Int) : Nat → Bool := fun j => decide ((j : Int) ∈ xs)
theorem mark_next (xs : List Int) (q : Nat) (j : Nat) : (if j = q then true else mark xs j) = mark (xs ++ [(q : Int)]) j := by
  unfold mark
  by_cases h : j = q
  · subst h; simp
  · rw [if_neg h, Bool.eq_iff_iff]
    simp only [decide_eq_true_eq, List.mem_append, List.mem_singleton]
    constructor
    · exact .inl
    · rintro (h1 | h1)
      · exact h1
      · omega
theorem infoB : (Tryd.prog.info? 4).map (fun i => (i.zero, i.size, i.bytes)) = some (some (.bool false), 1, 1) := by kernel_rfl
set_option maxRecDepth 100000 in
set_option maxHeartbeats 4000000 in
theorem isTree_any (a : Option Addr) (c : Nat) (l : List Nd) (w : World) (hN : Nodes w a l) (hll : l.length ≤ 1000000000) :
    Calls Tryd.prog 26 #[.slice a l.length c] w (Tells (IsT l) w) := by
  have HN := hidden hN
  clear hN
  obtain ⟨n, hn⟩ : ∃ n, n = l.length := ⟨_, rfl⟩
  rw [← hn] at hll ⊢
  have HNL := hidden hn
  clear hn
  have HB0 : Hid (Below w.heap.size w (w.alloc (.cells (madeCells #[.bool false] n) 4))) := (Below.refl _ _).alloc (Nat.le_refl _) _
  have HM0 := hidden (Bools.made w n)
  have hmk := run_make_row' (P := Tryd.prog) 60 4 (.bool false) 1 Tryd.underlying60 infoB rfl .i64 .i64 n (by omega) (by omega)
  go_enter Tryd.func26, Tryd.ntmps26
  go_wp2_with fail
  obtain ⟨w1, hw1⟩ : ∃ w1, w1 = w.alloc (.cells (madeCells #[.bool false] n) 4) := ⟨_, rfl⟩
  rw [← hw1] at HB0 HM0 ⊢
  have HSZ : Hid (w.heap.size ≤ w.heap.size) := Nat.le_refl _
  obtain ⟨g, hg⟩ : ∃ g, g = w.heap.size := ⟨_, rfl⟩
  rw [← hg] at HM0 ⊢
  have HGG := hidden hg
  clear hw1 hg hmk
  go_loopw [4, 14] (fun t4 t14 wr => ∃ i q : Nat, i ≤ n ∧ t14 = .int .i64 (i : Int) ∧ t4 = .int .i64 (q : Int) ∧ q ≤ n ∧ Hid (q = (seen l i 0).length) ∧ Hid (Bools wr g n (mark (seen l i 0))) ∧ Hid (Sofar l i 0) ∧ Hid (Below w.heap.size w wr)) (fun _ t14 _ => n - (intOf t14).toNat)
  case atStart =>
    refine ⟨0, 0, by omega, rfl, rfl, by omega, (by show _ = _; simp [seen, allK]), ?_, Sofar.start l, HB0⟩
    exact HM0.out.congr (fun j _ => by simp [mark, seen, allK])
  case round =>
    obtain ⟨i, q, hi, rfl, rfl, hq, HQ, HM, HS, HB⟩ := hrel
    by_cases hin : i < n
    · have hini : (i : Int) < (n : Int) := by omega
      have hil : Hid (i < l.length) := by show i < l.length; rw [← HNL.out]; exact hin
      obtain ⟨lb, lo, rfl, hlb, h5⟩ := (HN.out.below HB.out).at_ hil.out
      have hok := HN.out.2 i hil.out
      obtain ⟨x, hx⟩ : ∃ x, x = nd l i := ⟨_, rfl⟩
      rw [← hx] at h5 hok
      have HX := hidden hx
      clear hx
      obtain ⟨c0, c1, c2, c3, c4⟩ := h5
      obtain ⟨K, ka, kc, ks, nn, s, at_⟩ := x
      have hkr := hok.rows
      have hkl := hok.len
      simp only at hkr hkl c0 c1 c2 c3 c4
      obtain ⟨m, hm⟩ : ∃ m, m = ks.length := ⟨_, rfl⟩
      rw [← hm] at hkr hkl c1
      have HMM := hidden hm
      have HKR := hidden hkr
      clear hm hkr hok
      go_wp2_with fail
      obtain ⟨w2, hw2⟩ : ∃ w2, w2 = wr.alloc (.cells #[.int .i64 K, .slice ka m kc, .int .i64 nn, .string s, .int .i64 at_] 36) := ⟨_, rfl⟩
      have HB2 : Hid (Below wr.heap.size wr w2) := by rw [hw2]; exact (Below.refl _ _).alloc (Nat.le_refl _) _
      have HBW : Hid (Below w.heap.size w w2) := HB.out.trans (HB2.out.mono HB.out.size)
      have HMA := hidden (HM.out.below HB2.out)
      rw [← hw2]
      clear hw2 c0 c1 c2 c3 c4
      obtain ⟨wo, rfl⟩ : ∃ wo, wo = wr := ⟨_, rfl⟩
      have HKS : Hid ((nd l i).kids = ks) := by show _ = _; rw [← HX.out]
      go_loopw [4, 22] (fun t4 t22 wr => ∃ k q : Nat, k ≤ m ∧ t22 = .int .i64 (k : Int) ∧ t4 = .int .i64 (q : Int) ∧ q ≤ n ∧ Hid (q = (seen l i k).length) ∧ Hid (Bools wr g n (mark (seen l i k))) ∧ Hid (Sofar l i k) ∧ Hid (Below w.heap.size w wr)) (fun _ t22 _ => m - (intOf t22).toNat)
      case atStart => exact ⟨0, q, by omega, rfl, rfl, hq, HQ, HMA, HS, HBW⟩
      case round =>
        obtain ⟨k, q, hk, rfl, rfl, hq, HQ, HM, HS, HB⟩ := hrel
        by_cases hkm : k < m
        · have hkmi : (k : Int) < (m : Int) := by omega
          have hkl' : Hid (k < (nd l i).kids.length) := by show k < _; rw [HKS.out, ← HMM.out]; exact hkm
          obtain ⟨kb, ko, rfl, hkb, hkc⟩ := (HKR.out.below HB.out) (by omega)
          have hc := hkc k hkm
          clear hkc
          simp only at hc
          obtain ⟨z, hz⟩ : ∃ z, z = ks.getD k 0 := ⟨_, rfl⟩
          rw [← hz] at hc
          have HZ : Hid ((nd l i).kids.getD k 0 = z) := by show _ = _; rw [HKS.out, hz]
          clear hz
          by_cases hz0 : z < 0
          · go_wp2_with fail
            go_ret
            exact Tells.no rfl (far_not hil.out hkl'.out (by rw [HZ.out]; omega)) HB.out
          · have hz0' : decide (z < 0) = false := by simpa using hz0
            by_cases hzi : (i : Int) ≤ z
            · go_wp2_with fail
              go_ret
              exact Tells.no rfl (far_not hil.out hkl'.out (by rw [HZ.out]; omega)) HB.out
            · have hzi' : decide ((i : Int) ≤ z) = false := by simpa using hzi
              obtain ⟨u, rfl⟩ : ∃ u : Nat, z = u := ⟨z.toNat, by omega⟩
              have hui : u < i := by omega
              have hun : (u : Int) < (n : Int) := by omega
              have hbc := HM.out.cell (j := u) (by omega)
              have hfz := HM.out.frozen u
              by_cases hmk : (u : Int) ∈ seen l i k
              · have e : mark (seen l i k) u = true := by unfold mark; exact decide_eq_true hmk
                rw [e] at hbc
                have HMK := hidden hmk
                clear hmk e
                go_wp2_with fail
                go_ret
                exact Tells.no rfl (dup_not hil.out hkl'.out (by rw [HZ.out]; exact HMK.out)) HB.out
              · have e : mark (seen l i k) u = false := by unfold mark; exact decide_eq_false hmk
                rw [e] at hbc
                have HMK := hidden hmk
                clear hmk e
                have HS2 : Hid (Sofar l i (k + 1)) := HS.out.next hkl'.out (by rw [HZ.out]; omega) (by rw [HZ.out]; omega) (by rw [HZ.out]; exact HMK.out)
                have HE2 : Hid (seen l i (k + 1) = seen l i k ++ [(u : Int)]) := by show _ = _; rw [seen_next hkl'.out, HZ.out]
                have hq2 : q + 1 ≤ n := by
                  have h1 := HS2.out.len (Nat.le_of_lt hil.out)
                  rw [HE2.out, List.length_append, ← HQ.out] at h1
                  simp at h1
                  omega
                go_wp2_with fail
                go_roundw
                case rel =>
                  refine ⟨k + 1, q + 1, by omega, by go_num, by go_num, hq2, ?_, ?_, HS2, ?_⟩
                  · show _ = _; rw [HE2.out, List.length_append, ← HQ.out]; rfl
                  · show Bools _ _ _ _
                    rw [HE2.out]
                    exact (HM.out.set u true).congr (fun j _ => mark_next _ u j)
                  · exact HB.out.setCell (p := ⟨g, u, none⟩) (by show _ ≤ g; rw [HGG.out]; exact Nat.le_refl _) _
                case measure => simp [intOf]; omega
        · obtain rfl : k = m := by omega
          go_wp2_with fail
          go_roundw
          case rel =>
            have e1 : Hid (seen l i k = seen l (i + 1) 0) := by
              show _ = _
              rw [HMM.out, ← HKS.out]
              exact seen_full hil.out
            refine ⟨i + 1, q, by omega, by go_num, rfl, hq, ?_, ?_, ?_, HB⟩
            · show _ = _; rw [← e1.out]; exact HQ.out
            · show Bools _ _ _ _; rw [← e1.out]; exact HM.out
            · refine Sofar.turn ?_ hil.out
              rw [HKS.out, ← HMM.out]
              exact HS.out
          case measure => simp [intOf]; omega
    · obtain rfl : i = n := by omega
      have HIFF : Hid (IsT l ↔ 0 < i ∧ q = i - 1) := by
        have h1 := HS.out
        rw [HNL.out] at h1
        have h2 := ist_iff h1
        rw [← HNL.out, ← HQ.out] at h2
        exact h2
      rcases Nat.eq_zero_or_pos i with h0 | h0
      · subst h0
        go_wp2_with fail
        go_ret
        exact Tells.no rfl (fun h => by have := HIFF.out.1 h; omega) HB.out
      · by_cases hqq : q = i - 1
        · have hqq' : ((q : Int) == (i : Int) - 1) = true := by simp; omega
          have HQQ := hidden hqq
          clear hqq
          go_wp2_with fail
          go_ret
          exact Tells.yes rfl (HIFF.out.2 ⟨h0, HQQ.out⟩) HB.out
        · have hqq' : ((q : Int) == (i : Int) - 1) = false := by simp; omega
          have HQQ := hidden hqq
          clear hqq
          go_wp2_with fail
          go_ret
          exact Tells.no rfl (fun h => HQQ.out (HIFF.out.1 h).2) HB.out
end Go.Proofs.YtihcepkdihmjoaaDoor
