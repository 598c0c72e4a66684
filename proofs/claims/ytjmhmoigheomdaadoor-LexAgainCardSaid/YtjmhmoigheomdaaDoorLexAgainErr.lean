/- The walk through LexAgain, where something is wrong with the text. -/
import Derived.Test.YtjmhmoigheomdaaDoorLexAgainLists
namespace Go.Proofs.YtjmhmoigheomdaaDoor
open Go.RowKit
set_option linter.unusedVariables false

set_option maxRecDepth 100000 in
set_option maxHeartbeats 4000000 in
theorem again_err (s : ByteArray) (h x p : Nat) (w : World) (hT : Tab w) (hs : s.size ≤ 300) (hh : h < 256) (hL : T s.data.toList 0 = .error (x, p)) :
    Calls Tryd.prog 4 #[.string s, .int .u8 (h : Int)] w fun e w' => e = .returned (.bool true) ∧ Below w.heap.size w w' := by
  obtain ⟨l, hl⟩ : ∃ l, l = s.data.toList := ⟨_, rfl⟩
  have hlen : l.length = s.size := by rw [hl]; exact Array.length_toList
  rw [← hl] at hL
  obtain ⟨m, hm⟩ : ∃ m, m = h % 7 := ⟨_, rfl⟩
  have hm6 : m ≤ 6 := by omega
  have hm7 : (h : Int) % 7 = (m : Int) := by omega
  have hLS := hL
  unfold T at hLS
  obtain ⟨h1, h2, h3⟩ := er_S hLS
  have hps : p ≤ 300 := by
    rw [List.length_drop] at h3
    have := skp_le false l
    omega
  have hx0 : ((x : Int) != 0) = true := by simp; omega
  have HM2 : Hid (T (dots m ++ l) 0 = .error (x, p + 4 * m)) := by
    show T (dots m ++ l) 0 = _
    rw [T_dots, T_shift, hL]
    rfl
  have HL := hidden hl
  have HT := hidden hT
  have HLL := hidden hL
  clear hl hlen hT hm hL hLS h1 h2 h3
  go_enter Tryd.func4, Tryd.ntmps4
  rw [veil 4, veil 10]
  go_wp2_with fail
  refine (tokens_any s w HT.out (by omega)).mono ?_
  rintro e w1 hTold
  rw [← HL.out] at hTold
  rcases hTold with ⟨L', v, hL', _⟩ | ⟨x', p', hx, rfl, hb⟩
  · rw [HLL.out] at hL'; cases hL'
  · obtain ⟨rfl, rfl⟩ : x' = x ∧ p' = p := by
      have := hx.symm.trans HLL.out
      injection this with this
      injection this with h1 h2
      exact ⟨h1, h2⟩
    have HB1 := hidden hb
    clear hx hb
    go_wp2_with fail
    refine wp_veil ?_
    obtain ⟨W1, hW⟩ : ∃ W, W = w1.alloc (.cells #[.int .i64 (x' : Int), .int .i64 (p' : Int)] 26) := ⟨_, rfl⟩
    obtain ⟨f1, hf⟩ : ∃ f, f = w1.heap.size := ⟨_, rfl⟩
    have HF1 : Hid (Held W1 f1 26 #[.int .i64 (x' : Int), .int .i64 (p' : Int)]) := by rw [hW, hf]; exact Held.new _ _ _
    have hB1 : Below w1.heap.size w1 W1 := by rw [hW]; exact (Below.refl _ _).alloc (Nat.le_refl _) _
    have HBW1 := hidden (below_then HB1.out hB1)
    rw [← hW, ← hf]
    clear hW hf hB1 HB1
    go_wp2_with fail
    go_loop [7, 8] (fun c i => ∃ (k : Nat) (B : ByteArray), k ≤ m ∧ i = .int .i64 (k : Int) ∧ c = .string B ∧ B.size = 4 * k ∧ Hid (B = ⟨(dots k).toArray⟩)) (fun _ i => m - (intOf i).toNat)
    case atStart => exact ⟨0, ⟨#[]⟩, Nat.zero_le _, rfl, rfl, rfl, rfl⟩
    case round =>
      obtain ⟨k, B, hk, rfl, rfl, hBs, hB⟩ := hrel
      by_cases hlt : k < m
      · have hN : Hid (B ++ ⟨#[9, 35, 120, 10]⟩ = ⟨(dots (k + 1)).toArray⟩) := by
          show B ++ ⟨#[9, 35, 120, 10]⟩ = ⟨(dots k ++ dot).toArray⟩
          rw [hB.out]
          show ByteArray.mk (dots k).toArray ++ ByteArray.mk dot.toArray = _
          rw [ByteArray.mk_append_mk]
        have hNs : (B ++ ⟨#[9, 35, 120, 10]⟩ : ByteArray).size = 4 * (k + 1) := by
          rw [ByteArray.size_append, hBs]
          rfl
        have HNS := hidden hNs
        clear hNs
        go_wp2_with fail
        go_round
        case rel => exact ⟨k + 1, B ++ ⟨#[9, 35, 120, 10]⟩, by omega, by go_num, rfl, HNS.out, hN⟩
        case measure => simp [intOf]; omega
      · obtain rfl : k = m := by omega
        have hB24 : B.size ≤ 24 := by omega
        have HBS := hidden hBs
        clear hBs
        go_wp2_with fail
        have hBsl : (B ++ s).data.toList = dots k ++ l := by
          rw [ByteArray.data_append, hB.out, HL.out]
          simp
        refine (tokens_any (B ++ s) W1 (HT.out.below HBW1.out) (by rw [ByteArray.size_append]; omega)).mono ?_
        rintro e w2 hTold
        rw [hBsl] at hTold
        clear hBsl
        rcases hTold with ⟨L2, v, hL2, _⟩ | ⟨x2, p2, hx, rfl, hb⟩
        · rw [HM2.out] at hL2; cases hL2
        · obtain ⟨hx2, hp2⟩ : x2 = x' ∧ p2 = p' + 4 * k := by
            have := hx.symm.trans HM2.out
            injection this with this
            injection this with h1 h2
            exact ⟨h1, h2⟩
          subst hx2
          have hpB : (p' : Int) + (B.size : Int) = (p2 : Int) := by have := HBS.out; omega
          have HB2 := hidden hb
          clear hx hb hp2
          go_wp2_with fail
          refine wp_veil ?_
          obtain ⟨W2, hW⟩ : ∃ W, W = w2.alloc (.cells #[.int .i64 (x2 : Int), .int .i64 (p2 : Int)] 26) := ⟨_, rfl⟩
          obtain ⟨f2, hf⟩ : ∃ f, f = w2.heap.size := ⟨_, rfl⟩
          have hF2 : Held W2 f2 26 #[.int .i64 (x2 : Int), .int .i64 (p2 : Int)] := by rw [hW, hf]; exact Held.new _ _ _
          have hB2 : Below w2.heap.size w2 W2 := by rw [hW]; exact (Below.refl _ _).alloc (Nat.le_refl _) _
          have hB12 := below_then HB2.out hB2
          have HBW2 := hidden (below_then HBW1.out hB12)
          have hF1 := HF1.out.since hB12
          rw [← hW, ← hf]
          have q0 : W2.cell? ⟨f1, 0, none⟩ = some (.int .i64 (x2 : Int)) := hF1.at_ rfl
          have q1 : W2.cell? ⟨f1, 1, none⟩ = some (.int .i64 (p' : Int)) := hF1.at_ rfl
          have r0 : W2.cell? ⟨f2, 0, none⟩ = some (.int .i64 (x2 : Int)) := hF2.at_ rfl
          have r1 : W2.cell? ⟨f2, 1, none⟩ = some (.int .i64 (p2 : Int)) := hF2.at_ rfl
          clear hW hf hF1 hF2 hB2 hB12 HB2 HF1
          go_wp2_with fail
          refine (works_true W2 (HT.out.below HBW2.out)).mono ?_
          rintro e w4 ⟨rfl, hb⟩
          have HB4 := hidden (below_then HBW2.out hb)
          clear hb
          go_wp2_with fail
          go_ret
          exact ⟨rfl, HB4.out⟩
end Go.Proofs.YtjmhmoigheomdaaDoor
