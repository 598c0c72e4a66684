/- The walks through Words, May, Many and Below: the words of numbers, by definition. -/
import Derived.Test.YtkaaokaiealbmaaDoorBitsSort
namespace Go.Proofs.YtkaaokaiealbmaaDoor
open Go.RowKit
set_option linter.unusedVariables false

/-- the word i of the numbers that L tells, bit by bit up to k -/
def part (L : Int → Bool) (i : Nat) : Nat → Nat
  | 0 => 0
  | k + 1 => part L i k + (if L ((64 * i + k : Nat) : Int) then 2 ^ k else 0)
theorem part_lt (L : Int → Bool) (i : Nat) : ∀ k, part L i k < 2 ^ k
  | 0 => by simp [part]
  | k + 1 => by
    have := part_lt L i k
    unfold part
    rw [Nat.pow_succ]
    split <;> omega
theorem part_bit (L : Int → Bool) (i t : Nat) : ∀ k, t < k → (part L i k).testBit t = L ((64 * i + t : Nat) : Int)
  | 0, h => by omega
  | k + 1, h => by
    have hl := part_lt L i k
    have e : part L i (k + 1) = 2 ^ k * (if L ((64 * i + k : Nat) : Int) then 1 else 0) + part L i k := by
      show part L i k + (if L ((64 * i + k : Nat) : Int) then 2 ^ k else 0) = _
      split <;> simp <;> omega
    rw [e, Nat.testBit_two_pow_mul_add _ hl]
    by_cases htk : t < k
    · rw [if_pos htk]; exact part_bit L i t k htk
    · have : t = k := by omega
      subst this
      rw [if_neg (by omega), Nat.sub_self]
      cases L ((64 * i + t : Nat) : Int) <;> simp
theorem part_le64 (L : Int → Bool) (i k : Nat) (h : k ≤ 64) : part L i k < 18446744073709551616 := by
  have h1 := part_lt L i k
  have h2 : 2 ^ k ≤ 2 ^ 64 := Nat.pow_le_pow_right (by decide) h
  exact Nat.lt_of_lt_of_le h1 h2
/-- a word is what its bits are -/
theorem part_eq {L : Int → Bool} {i x : Nat} (hx : x < 18446744073709551616) (h : ∀ t, t < 64 → x.testBit t = L ((64 * i + t : Nat) : Int)) : part L i 64 = x := by
  apply Nat.eq_of_testBit_eq
  intro t
  by_cases ht : t < 64
  · rw [part_bit L i t 64 ht, h t ht]
  · rw [high_false (part_le64 L i 64 (by omega)) (by omega), high_false hx (by omega)]

/-- one cell otherwise -/
def mid (i : Nat) (x : Int) (F : Nat → Int) : Nat → Int := fun j => if j = i then x else F j
theorem Mine.mid_set {k : IntKind} {t : TypeId} {w : World} {g n i : Nat} {x : Int} {F : Nat → Int} (h : Mine k t w g n (mid i x F)) (y : Int) : Mine k t (w.setCell ⟨g, i, none⟩ (.int k y)) g n (mid i y F) := by
  refine (h.set i y).congr fun j hj => ?_
  unfold mid
  split <;> simp_all
theorem Mine.mid_start {k : IntKind} {t : TypeId} {w : World} {g n i : Nat} {f : Nat → Int} (h : Mine k t w g n (upto i f (fun _ => 0))) : Mine k t w g n (mid i 0 (upto i f (fun _ => 0))) := by
  refine h.congr fun j hj => ?_
  unfold mid upto
  by_cases e : j = i
  · subst e; simp
  · simp [e]
theorem Mine.mid_end {k : IntKind} {t : TypeId} {w : World} {g n i : Nat} {f : Nat → Int} {x : Int} (h : Mine k t w g n (mid i x (upto i f (fun _ => 0)))) (hx : x = f i) : Mine k t w g n (upto (i + 1) f (fun _ => 0)) := by
  refine h.congr fun j hj => ?_
  unfold mid upto
  by_cases e : j = i
  · subst e; simp [hx]
  · by_cases e2 : j < i
    · simp [e, e2, show j < i + 1 by omega]
    · simp [e, e2, show ¬ j < i + 1 by omega]
theorem mid_at (i : Nat) (x : Int) (F : Nat → Int) : mid i x F i = x := if_pos rfl

set_option maxHeartbeats 1600000 in
theorem rwords_any (n : Nat) (a : Option Addr) (m c : Nat) (f : Nat → Int) (w : World) (hn : n ≤ 1000) (hm : m ≤ 50000) (ha : Rows' .i64 w a m f) :
    Calls Tryd.prog 18 #[.int .i64 n, .slice a m c] w fun e w' => ∃ g, e = .returned (.slice (some ⟨g, 0, none⟩) n n) ∧ w.heap.size ≤ g ∧ Mine .u64 48 w' g n (fun i => (part (isIn m f) i 64 : Int)) ∧ Below w.heap.size w w' := by
  have hmk := make_words n (by omega)
  have HX := hidden ha
  clear ha
  go_enter Tryd.func18, Tryd.ntmps18
  go_wp2_with fail
  obtain ⟨g, hg⟩ : ∃ g, g = w.heap.size := ⟨_, rfl⟩
  rw [← hg]
  have HG := hidden hg
  clear hg hmk
  go_loopw [6] (fun i wr => ∃ k : Nat, k ≤ n ∧ i = .int .i64 (k : Int) ∧ Hid (Mine .u64 48 wr g n (upto k (fun i => (part (isIn m f) i 64 : Int)) (fun _ => 0))) ∧ Hid (Below w.heap.size w wr)) (fun i _ => n - (intOf i).toNat)
  case atStart => exact ⟨0, by omega, rfl, by rw [HG.out]; exact zeros_mine w n, zeros_below w n⟩
  case round =>
    obtain ⟨i, hi, rfl, hM, hB⟩ := hrel
    by_cases hin : i < n
    · have hii : (i : Int) < (n : Int) := by omega
      go_wp2_with fail
      go_loopw [7] (fun kk wi => ∃ k : Nat, k ≤ 64 ∧ kk = .int .i64 (k : Int) ∧ Hid (Mine .u64 48 wi g n (mid i (part (isIn m f) i k : Int) (upto i (fun i => (part (isIn m f) i 64 : Int)) (fun _ => 0)))) ∧ Hid (Below w.heap.size w wi)) (fun kk _ => 64 - (intOf kk).toNat)
      case atStart => exact ⟨0, by omega, rfl, hM.out.mid_start, hB⟩
      case round =>
        clear hM hB
        obtain ⟨k, hk, rfl, hMi, hBi⟩ := hrel
        by_cases hk64 : k < 64
        · have hki : (k : Int) < 64 := by omega
          have hcell := hMi.out.cell hin
          rw [mid_at] at hcell
          have hfro := hMi.out.frozen i
          have hsucc : part (isIn m f) i (k + 1) = part (isIn m f) i k + (if isIn m f ((64 * i + k : Nat) : Int) then 2 ^ k else 0) := rfl
          obtain ⟨S, hS⟩ : ∃ S, S = part (isIn m f) i k := ⟨_, rfl⟩
          rw [← hS] at hcell hsucc
          have hS64 := part_lt (isIn m f) i k
          rw [← hS] at hS64
          obtain ⟨P, hP⟩ : ∃ P, P = 2 ^ k := ⟨_, rfl⟩
          have hP64 : P ≤ 9223372036854775808 := by rw [hP]; exact Nat.pow_le_pow_right (by decide) (show k ≤ 63 by omega)
          rw [← hP] at hsucc hS64
          have hshl : IntKind.u64.wrap (2 ^ k) = (P : Int) := by
            have e3 : (2 : Int) ^ k = (P : Int) := by rw [hP]; simp
            rw [e3, IntKind.wrap_u64]; omega
          have hadd : IntKind.u64.wrap ((S : Int) + (P : Int)) = ((S + P : Nat) : Int) := by rw [IntKind.wrap_u64]; omega
          have HSS := hidden hS
          have HPP := hidden hP
          clear hS hP
          go_wp2_with fail
          refine (hasInt_any a m c f (64 * (i : Int) + (k : Int)) _ (by omega) (HX.out.below hBi.out)).mono ?_
          rintro e w1 ⟨rfl, hw1⟩
          rw [hw1]
          clear hw1 w1
          have hcast : ((64 * i + k : Nat) : Int) = 64 * (i : Int) + (k : Int) := by omega
          rw [hcast] at hsucc
          cases ht : decide (∃ j, j < m ∧ f j = 64 * (i : Int) + (k : Int))
          · have HS1 : Hid (part (isIn m f) i (k + 1) = S) := by show _ = _; rw [hsucc]; simp only [isIn, ht]; simp
            clear hsucc ht hcast
            go_wp2_with fail
            go_roundw
            case rel => exact ⟨k + 1, by omega, by go_num, by rw [HS1.out, HSS.out]; exact hMi, hBi⟩
            case measure => simp [intOf]; omega
          · have HS1 : Hid (part (isIn m f) i (k + 1) = S + P) := by show _ = _; rw [hsucc]; simp only [isIn, ht]; simp
            clear hsucc ht hcast
            go_wp2_with fail
            go_still_tail 10, (by kernel_rfl)
            change wpList _ _ _ _ _ wr.drew
            go_wp2_with fail
            go_roundw
            case rel => exact ⟨k + 1, by omega, by go_num, by rw [HS1.out]; exact hMi.out.mid_set _, (hBi.out.setCell (p := ⟨g, i, none⟩) (by rw [HG.out]; exact Nat.le_refl _) _).drew⟩
            case measure => simp [intOf]; omega
        · have : k = 64 := by omega
          subst this
          go_wp2_with fail
          go_roundw
          case rel => exact ⟨i + 1, by omega, by go_num, hMi.out.mid_end rfl, hBi⟩
          case measure => simp [intOf]; omega
    · have : i = n := by omega
      subst this
      go_wp2
      go_ret
      exact ⟨g, rfl, by rw [HG.out]; exact Nat.le_refl _, hM.out.whole, hB.out⟩

end Go.Proofs.YtkaaokaiealbmaaDoor
