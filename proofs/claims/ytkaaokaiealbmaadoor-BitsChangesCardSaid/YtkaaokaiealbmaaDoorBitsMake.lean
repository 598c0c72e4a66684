/- The walks through what makes sets: New, Full, And, Less, Or. -/
import Derived.Test.YtkaaokaiealbmaaDoorBitsRead
import Derived.StillTailTactics
namespace Go.Proofs.YtkaaokaiealbmaaDoor
open Go.RowKit
set_option linter.unusedVariables false

theorem info64 : (Tryd.prog.info? 48).map (fun i => (i.zero, i.size, i.bytes)) = some (some (.int .u64 0), 1, 8) := by kernel_rfl
theorem infoI : (Tryd.prog.info? 3).map (fun i => (i.zero, i.size, i.bytes)) = some (some (.int .i64 0), 1, 8) := by kernel_rfl
/-- what make lays -/
def zeros (w : World) (n : Nat) : World := w.alloc (.cells (madeCells #[.int .u64 0] n) 48)
theorem make_set (n : Nat) (hn : n ≤ 100000) (w : World) :
    (Instr.makeSlice 26 (.int .i64 (n : Int)) (.int .i64 (n : Int))).run Tryd.prog w = .ok (.slice (some ⟨w.heap.size, 0, none⟩) n n) (zeros w n) :=
  run_make_row' (P := Tryd.prog) 26 48 (.int .u64 0) 8 Tryd.underlying26 info64 rfl .i64 .i64 n (by omega) (by omega) w
theorem make_words (n : Nat) (hn : n ≤ 100000) (w : World) :
    (Instr.makeSlice 23 (.int .i64 (n : Int)) (.int .i64 (n : Int))).run Tryd.prog w = .ok (.slice (some ⟨w.heap.size, 0, none⟩) n n) (zeros w n) :=
  run_make_row' (P := Tryd.prog) 23 48 (.int .u64 0) 8 Tryd.underlying23 info64 rfl .i64 .i64 n (by omega) (by omega) w
theorem zeros_mine (w : World) (n : Nat) : Mine .u64 48 (zeros w n) w.heap.size n (fun _ => 0) := Mine.made w .u64 48 n
theorem zeros_below (w : World) (n : Nat) : Below w.heap.size w (zeros w n) := (Below.refl _ _).alloc (Nat.le_refl _) _

theorem new_not (u : Int) (w : World) (h : isW u = false) :
    Calls Tryd.prog 9 #[.int .i64 u] w fun e w' => e = .returned (.slice none 0 0) ∧ w' = w := by
  go_enter Tryd.func9, Tryd.ntmps9
  go_wp2_with fail
  refine (isWidth_any u _).mono ?_
  rintro e w1 ⟨rfl, hw1⟩
  rw [hw1, h]
  clear hw1 w1
  go_wp2_with fail
  go_ret
  exact ⟨rfl, rfl⟩
theorem new_any (u n : Nat) (w : World) (hu : u ≤ 65536) (hn : n = (u + 63) / 64) :
    Calls Tryd.prog 9 #[.int .i64 u] w fun e w' => e = .returned (.slice (some ⟨w.heap.size, 0, none⟩) n n) ∧ w' = zeros w n := by
  have hW := isW_in (x := (u : Int)) (by omega) (by omega)
  have hmk := make_set n (by omega)
  have HN := hidden hn
  clear hn
  go_enter Tryd.func9, Tryd.ntmps9
  go_wp2_with fail
  refine (isWidth_any u _).mono ?_
  rintro e w1 ⟨rfl, hw1⟩
  rw [hw1, hW]
  clear hw1 w1
  go_wp2_with fail
  refine (wordsFor_any u _ hu).mono ?_
  rintro e w1 ⟨rfl, hw1⟩
  rw [hw1, ← HN.out]
  clear hw1 w1
  go_wp2_with fail
  go_ret
  exact ⟨rfl, rfl⟩

/-- up to k the new words, from there on the old ones -/
def upto (k : Nat) (f g : Nat → Int) : Nat → Int := fun j => if j < k then f j else g j
theorem upto_zero (f g : Nat → Int) : upto 0 f g = g := rfl
theorem Mine.step {k : IntKind} {t : TypeId} {w : World} {b n i : Nat} {f g : Nat → Int} (h : Mine k t w b n (upto i f g)) (x : Int) (hx : x = f i) : Mine k t (w.setCell ⟨b, i, none⟩ (.int k x)) b n (upto (i + 1) f g) := by
  refine (h.set i x).congr fun j hj => ?_
  unfold upto
  by_cases h1 : j = i
  · subst h1; simp [hx]
  · by_cases h2 : j < i
    · simp [h1, h2, show j < i + 1 by omega]
    · simp [h1, h2, show ¬ j < i + 1 by omega]
theorem Mine.whole {k : IntKind} {t : TypeId} {w : World} {b n : Nat} {f g : Nat → Int} (h : Mine k t w b n (upto n f g)) : Mine k t w b n f :=
  h.congr fun j hj => by unfold upto; rw [if_pos hj]

theorem full_any (u n : Nat) (w : World) (hu : u ≤ 65536) (hn : n = (u + 63) / 64) :
    Calls Tryd.prog 10 #[.int .i64 u] w fun e w' => ∃ g, e = .returned (.slice (some ⟨g, 0, none⟩) n n) ∧ w.heap.size ≤ g ∧ Mine .u64 48 w' g n (fun j => (fullW u j : Int)) ∧ Below w.heap.size w w' := by
  have hnl : n ≤ 1024 := by omega
  have hnu : 64 * n < u + 64 := by omega
  obtain ⟨g, hg⟩ : ∃ g, g = w.heap.size := ⟨_, rfl⟩
  go_enter Tryd.func10, Tryd.ntmps10
  go_wp2_with fail
  refine (new_any u n _ hu hn).mono ?_
  rintro e w1 ⟨rfl, hw1⟩
  have hM : Mine .u64 48 w1 g n (fun _ => 0) := by rw [hw1, hg]; exact zeros_mine w n
  have hB : Below w.heap.size w w1 := by rw [hw1]; exact zeros_below w n
  have HG := hidden hg
  rw [← hg]
  clear hw1 hg hn
  have HM := hidden hM
  have HB := hidden hB
  clear hM hB
  go_wp2_with fail
  go_loopw [9] (fun i wr => ∃ k : Nat, k ≤ n ∧ i = .int .i64 (k : Int) ∧ Hid (Mine .u64 48 wr g n (upto k (fun j => (fullW u j : Int)) (fun _ => 0))) ∧ Hid (Below w.heap.size w wr)) (fun i _ => n - (intOf i).toNat)
  case atStart => exact ⟨0, by omega, rfl, HM, HB⟩
  case round =>
    obtain ⟨k, hk, rfl, hM, hB⟩ := hrel
    by_cases hkn : k < n
    · have hcell := hM.out.cell hkn
      have hfro := hM.out.frozen k
      have hki : (k : Int) < (n : Int) := by omega
      go_wp2_with fail
      refine (wordBelow_any u k _ hu (by omega)).mono ?_
      rintro e w2 ⟨rfl, hw2⟩
      rw [hw2]
      clear hw2 w2
      go_wp2_with fail
      go_roundw
      case rel => exact ⟨k + 1, by omega, by go_num, hM.out.step _ rfl, hB.out.setCell (by rw [HG.out]; exact Nat.le_refl _) _⟩
      case measure => simp [intOf]; omega
    · have : k = n := by omega
      subst this
      go_wp2
      go_ret
      exact ⟨g, rfl, by rw [HG.out]; exact Nat.le_refl _, hM.out.whole, hB.out⟩

theorem wd_lt {n : Nat} {A : Nat → Nat} (h : ∀ j, A j < 18446744073709551616) (j : Nat) : wd n A j < 18446744073709551616 := by
  unfold wd; split
  · exact h j
  · omega
theorem Rows'.since {k : IntKind} {w w' : World} {a : Option Addr} {n : Nat} {f : Nat → Int} (h : Rows' k w a n f) (hb : Below w.heap.size w w') : Rows' k w' a n f := h.below hb

theorem and_lt (n c b c' : Nat) (x y : Option Addr) (A B : Nat → Nat) (w : World) (hn : n ≤ 100000) (hb : b ≤ 100000) (hnb : n ≤ b) (hA : ∀ j, A j < 18446744073709551616) (hB : ∀ j, B j < 18446744073709551616)
    (hx : Rows' .u64 w x n (fun j => (A j : Int))) (hy : Rows' .u64 w y b (fun j => (B j : Int))) :
    Calls Tryd.prog 30 #[.slice x n c, .slice y b c'] w fun e w' => ∃ g, e = .returned (.slice (some ⟨g, 0, none⟩) n n) ∧ w.heap.size ≤ g ∧ Mine .u64 48 w' g n (fun j => ((A j &&& B j : Nat) : Int)) ∧ Below w.heap.size w w' := by
  have hmk := make_set n (by omega)
  have HX := hidden hx
  have HY := hidden hy
  have HA := hidden hA
  have HB := hidden hB
  clear hx hy hA hB
  go_enter Tryd.func30, Tryd.ntmps30
  go_wp2
  obtain ⟨g, hg⟩ : ∃ g, g = w.heap.size := ⟨_, rfl⟩
  rw [← hg]
  have HG := hidden hg
  clear hg
  go_loopw [15] (fun i wr => ∃ k : Nat, k ≤ n ∧ i = .int .i64 (k : Int) ∧ Hid (Mine .u64 48 wr g n (upto k (fun j => ((A j &&& B j : Nat) : Int)) (fun _ => 0))) ∧ Hid (Below w.heap.size w wr)) (fun i _ => n - (intOf i).toNat)
  case atStart => exact ⟨0, by omega, rfl, by rw [HG.out]; exact zeros_mine w n, zeros_below w n⟩
  case round =>
    obtain ⟨k, hk, rfl, hM, hB⟩ := hrel
    by_cases hkn : k < n
    · have hcell := hM.out.cell hkn
      have hfro := hM.out.frozen k
      have hki : (k : Int) < (n : Int) := by omega
      have hkb : (k : Int) < (b : Int) := by omega
      obtain ⟨b1, off1, rfl, hlt1, hc1⟩ := HX.out (by omega)
      obtain ⟨b2, off2, rfl, hlt2, hc2⟩ := HY.out (by omega)
      have hcx := (hB.out.cell (p := ⟨b1, off1 + k, none⟩) hlt1).trans (hc1 k (by omega))
      have hcy := (hB.out.cell (p := ⟨b2, off2 + k, none⟩) hlt2).trans (hc2 k (by omega))
      have hval := u64_and_nat (A k) (B k) (HA.out k) (HB.out k)
      clear hc1 hc2
      go_wp2_with fail
      go_still_tail 12, (by kernel_rfl)
      change wpList _ _ _ _ _ wr.drew
      go_wp2_with fail
      go_roundw
      case rel => exact ⟨k + 1, by omega, by go_num, hM.out.step _ rfl, (hB.out.setCell (p := ⟨g, k, none⟩) (by rw [HG.out]; exact Nat.le_refl _) _).drew⟩
      case measure => simp [intOf]; omega
    · have : k = n := by omega
      subst this
      go_wp2
      go_ret
      exact ⟨g, rfl, by rw [HG.out]; exact Nat.le_refl _, hM.out.whole, hB.out⟩
theorem and_ge (n c b c' : Nat) (x y : Option Addr) (A B : Nat → Nat) (w : World) (hn : n ≤ 100000) (hb : b ≤ 100000) (hnb : b < n) (hA : ∀ j, A j < 18446744073709551616) (hB : ∀ j, B j < 18446744073709551616)
    (hx : Rows' .u64 w x n (fun j => (A j : Int))) (hy : Rows' .u64 w y b (fun j => (B j : Int))) :
    Calls Tryd.prog 30 #[.slice x n c, .slice y b c'] w fun e w' => ∃ g, e = .returned (.slice (some ⟨g, 0, none⟩) b b) ∧ w.heap.size ≤ g ∧ Mine .u64 48 w' g b (fun j => ((A j &&& B j : Nat) : Int)) ∧ Below w.heap.size w w' := by
  have hmk := make_set b (by omega)
  have HX := hidden hx
  have HY := hidden hy
  have HA := hidden hA
  have HB := hidden hB
  clear hx hy hA hB
  go_enter Tryd.func30, Tryd.ntmps30
  go_wp2
  obtain ⟨g, hg⟩ : ∃ g, g = w.heap.size := ⟨_, rfl⟩
  rw [← hg]
  have HG := hidden hg
  clear hg
  go_loopw [15] (fun i wr => ∃ k : Nat, k ≤ b ∧ i = .int .i64 (k : Int) ∧ Hid (Mine .u64 48 wr g b (upto k (fun j => ((A j &&& B j : Nat) : Int)) (fun _ => 0))) ∧ Hid (Below w.heap.size w wr)) (fun i _ => b - (intOf i).toNat)
  case atStart => exact ⟨0, by omega, rfl, by rw [HG.out]; exact zeros_mine w b, zeros_below w b⟩
  case round =>
    obtain ⟨k, hk, rfl, hM, hB⟩ := hrel
    by_cases hkn : k < b
    · have hcell := hM.out.cell hkn
      have hfro := hM.out.frozen k
      have hki : (k : Int) < (n : Int) := by omega
      have hkb : (k : Int) < (b : Int) := by omega
      obtain ⟨b1, off1, rfl, hlt1, hc1⟩ := HX.out (by omega)
      obtain ⟨b2, off2, rfl, hlt2, hc2⟩ := HY.out (by omega)
      have hcx := (hB.out.cell (p := ⟨b1, off1 + k, none⟩) hlt1).trans (hc1 k (by omega))
      have hcy := (hB.out.cell (p := ⟨b2, off2 + k, none⟩) hlt2).trans (hc2 k (by omega))
      have hval := u64_and_nat (A k) (B k) (HA.out k) (HB.out k)
      clear hc1 hc2
      go_wp2_with fail
      go_still_tail 12, (by kernel_rfl)
      change wpList _ _ _ _ _ wr.drew
      go_wp2_with fail
      go_roundw
      case rel => exact ⟨k + 1, by omega, by go_num, hM.out.step _ rfl, (hB.out.setCell (p := ⟨g, k, none⟩) (by rw [HG.out]; exact Nat.le_refl _) _).drew⟩
      case measure => simp [intOf]; omega
    · have : k = b := by omega
      subst this
      go_wp2
      go_ret
      exact ⟨g, rfl, by rw [HG.out]; exact Nat.le_refl _, hM.out.whole, hB.out⟩
theorem and_any (n c b c' : Nat) (x y : Option Addr) (A B : Nat → Nat) (w : World) (hn : n ≤ 100000) (hb : b ≤ 100000) (hA : ∀ j, A j < 18446744073709551616) (hB : ∀ j, B j < 18446744073709551616)
    (hx : Rows' .u64 w x n (fun j => (A j : Int))) (hy : Rows' .u64 w y b (fun j => (B j : Int))) :
    Calls Tryd.prog 30 #[.slice x n c, .slice y b c'] w fun e w' => ∃ g, e = .returned (.slice (some ⟨g, 0, none⟩) (min n b) (min n b)) ∧ w.heap.size ≤ g ∧ Mine .u64 48 w' g (min n b) (fun j => ((A j &&& B j : Nat) : Int)) ∧ Below w.heap.size w w' := by
  by_cases h : n ≤ b
  · rw [show min n b = n by omega]
    exact and_lt n c b c' x y A B w hn hb h hA hB hx hy
  · rw [show min n b = b by omega]
    exact and_ge n c b c' x y A B w hn hb (by omega) hA hB hx hy

theorem or_lt (n c b c' : Nat) (x y : Option Addr) (A B : Nat → Nat) (w : World) (hn : n ≤ 100000) (hb : b ≤ 100000) (hnb : n < b) (hA : ∀ j, A j < 18446744073709551616) (hB : ∀ j, B j < 18446744073709551616)
    (hx : Rows' .u64 w x n (fun j => (A j : Int))) (hy : Rows' .u64 w y b (fun j => (B j : Int))) :
    Calls Tryd.prog 29 #[.slice x n c, .slice y b c'] w fun e w' => ∃ g, e = .returned (.slice (some ⟨g, 0, none⟩) b b) ∧ w.heap.size ≤ g ∧ Mine .u64 48 w' g b (fun j => ((wd n A j ||| wd b B j : Nat) : Int)) ∧ Below w.heap.size w w' := by
  have hmk := make_set b (by omega)
  have HX := hidden hx
  have HY := hidden hy
  have HA := hidden hA
  have HB := hidden hB
  clear hx hy hA hB
  go_enter Tryd.func29, Tryd.ntmps29
  go_wp2
  obtain ⟨g, hg⟩ : ∃ g, g = w.heap.size := ⟨_, rfl⟩
  rw [← hg]
  have HG := hidden hg
  clear hg
  go_loopw [15] (fun i wr => ∃ k : Nat, k ≤ b ∧ i = .int .i64 (k : Int) ∧ Hid (Mine .u64 48 wr g b (upto k (fun j => ((wd n A j ||| wd b B j : Nat) : Int)) (fun _ => 0))) ∧ Hid (Below w.heap.size w wr)) (fun i _ => b - (intOf i).toNat)
  case atStart => exact ⟨0, by omega, rfl, by rw [HG.out]; exact zeros_mine w b, zeros_below w b⟩
  case round =>
    obtain ⟨k, hk, rfl, hM, hB⟩ := hrel
    by_cases hkn : k < b
    · have hcell := hM.out.cell hkn
      have hfro := hM.out.frozen k
      have hki : (k : Int) < (b : Int) := by omega
      have hval := u64_or_nat (wd n A k) (wd b B k) (wd_lt HA.out k) (wd_lt HB.out k)
      go_wp2_with fail
      refine (word_any x n c k A _ hn (by omega) (HX.out.since hB.out)).mono ?_
      rintro e w2 ⟨rfl, hw2⟩
      rw [hw2]
      clear hw2 w2
      go_wp2_with fail
      refine (word_any y b c' k B _ hb (by omega) (HY.out.since hB.out)).mono ?_
      rintro e w2 ⟨rfl, hw2⟩
      rw [hw2]
      clear hw2 w2
      go_wp2_with fail
      go_roundw
      case rel => exact ⟨k + 1, by omega, by go_num, hM.out.step _ rfl, hB.out.setCell (by rw [HG.out]; exact Nat.le_refl _) _⟩
      case measure => simp [intOf]; omega
    · have : k = b := by omega
      subst this
      go_wp2
      go_ret
      exact ⟨g, rfl, by rw [HG.out]; exact Nat.le_refl _, hM.out.whole, hB.out⟩
theorem or_ge (n c b c' : Nat) (x y : Option Addr) (A B : Nat → Nat) (w : World) (hn : n ≤ 100000) (hb : b ≤ 100000) (hnb : ¬ n < b) (hA : ∀ j, A j < 18446744073709551616) (hB : ∀ j, B j < 18446744073709551616)
    (hx : Rows' .u64 w x n (fun j => (A j : Int))) (hy : Rows' .u64 w y b (fun j => (B j : Int))) :
    Calls Tryd.prog 29 #[.slice x n c, .slice y b c'] w fun e w' => ∃ g, e = .returned (.slice (some ⟨g, 0, none⟩) n n) ∧ w.heap.size ≤ g ∧ Mine .u64 48 w' g n (fun j => ((wd n A j ||| wd b B j : Nat) : Int)) ∧ Below w.heap.size w w' := by
  have hmk := make_set n (by omega)
  have HX := hidden hx
  have HY := hidden hy
  have HA := hidden hA
  have HB := hidden hB
  clear hx hy hA hB
  go_enter Tryd.func29, Tryd.ntmps29
  go_wp2
  obtain ⟨g, hg⟩ : ∃ g, g = w.heap.size := ⟨_, rfl⟩
  rw [← hg]
  have HG := hidden hg
  clear hg
  go_loopw [15] (fun i wr => ∃ k : Nat, k ≤ n ∧ i = .int .i64 (k : Int) ∧ Hid (Mine .u64 48 wr g n (upto k (fun j => ((wd n A j ||| wd b B j : Nat) : Int)) (fun _ => 0))) ∧ Hid (Below w.heap.size w wr)) (fun i _ => n - (intOf i).toNat)
  case atStart => exact ⟨0, by omega, rfl, by rw [HG.out]; exact zeros_mine w n, zeros_below w n⟩
  case round =>
    obtain ⟨k, hk, rfl, hM, hB⟩ := hrel
    by_cases hkn : k < n
    · have hcell := hM.out.cell hkn
      have hfro := hM.out.frozen k
      have hki : (k : Int) < (n : Int) := by omega
      have hval := u64_or_nat (wd n A k) (wd b B k) (wd_lt HA.out k) (wd_lt HB.out k)
      go_wp2_with fail
      refine (word_any x n c k A _ hn (by omega) (HX.out.since hB.out)).mono ?_
      rintro e w2 ⟨rfl, hw2⟩
      rw [hw2]
      clear hw2 w2
      go_wp2_with fail
      refine (word_any y b c' k B _ hb (by omega) (HY.out.since hB.out)).mono ?_
      rintro e w2 ⟨rfl, hw2⟩
      rw [hw2]
      clear hw2 w2
      go_wp2_with fail
      go_roundw
      case rel => exact ⟨k + 1, by omega, by go_num, hM.out.step _ rfl, hB.out.setCell (by rw [HG.out]; exact Nat.le_refl _) _⟩
      case measure => simp [intOf]; omega
    · have : k = n := by omega
      subst this
      go_wp2
      go_ret
      exact ⟨g, rfl, by rw [HG.out]; exact Nat.le_refl _, hM.out.whole, hB.out⟩
theorem or_any (n c b c' : Nat) (x y : Option Addr) (A B : Nat → Nat) (w : World) (hn : n ≤ 100000) (hb : b ≤ 100000) (hA : ∀ j, A j < 18446744073709551616) (hB : ∀ j, B j < 18446744073709551616)
    (hx : Rows' .u64 w x n (fun j => (A j : Int))) (hy : Rows' .u64 w y b (fun j => (B j : Int))) :
    Calls Tryd.prog 29 #[.slice x n c, .slice y b c'] w fun e w' => ∃ g, e = .returned (.slice (some ⟨g, 0, none⟩) (max n b) (max n b)) ∧ w.heap.size ≤ g ∧ Mine .u64 48 w' g (max n b) (fun j => ((wd n A j ||| wd b B j : Nat) : Int)) ∧ Below w.heap.size w w' := by
  by_cases h : n < b
  · rw [show max n b = b by omega]
    exact or_lt n c b c' x y A B w hn hb h hA hB hx hy
  · rw [show max n b = n by omega]
    exact or_ge n c b c' x y A B w hn hb h hA hB hx hy

theorem less_any (n c b c' : Nat) (x y : Option Addr) (A B : Nat → Nat) (w : World) (hn : n ≤ 100000) (hb : b ≤ 100000) (hA : ∀ j, A j < 18446744073709551616) (hB : ∀ j, B j < 18446744073709551616)
    (hx : Rows' .u64 w x n (fun j => (A j : Int))) (hy : Rows' .u64 w y b (fun j => (B j : Int))) :
    Calls Tryd.prog 32 #[.slice x n c, .slice y b c'] w fun e w' => ∃ g, e = .returned (.slice (some ⟨g, 0, none⟩) n n) ∧ w.heap.size ≤ g ∧ Mine .u64 48 w' g n (fun j => ((A j &&& (18446744073709551615 - wd b B j) : Nat) : Int)) ∧ Below w.heap.size w w' := by
  have hmk := make_set n (by omega)
  have HX := hidden hx
  have HY := hidden hy
  have HA := hidden hA
  have HB := hidden hB
  clear hx hy hA hB
  go_enter Tryd.func32, Tryd.ntmps32
  go_wp2
  obtain ⟨g, hg⟩ : ∃ g, g = w.heap.size := ⟨_, rfl⟩
  rw [← hg]
  have HG := hidden hg
  clear hg
  go_loopw [12] (fun i wr => ∃ k : Nat, k ≤ n ∧ i = .int .i64 (k : Int) ∧ Hid (Mine .u64 48 wr g n (upto k (fun j => ((A j &&& (18446744073709551615 - wd b B j) : Nat) : Int)) (fun _ => 0))) ∧ Hid (Below w.heap.size w wr)) (fun i _ => n - (intOf i).toNat)
  case atStart => exact ⟨0, by omega, rfl, by rw [HG.out]; exact zeros_mine w n, zeros_below w n⟩
  case round =>
    obtain ⟨k, hk, rfl, hM, hB⟩ := hrel
    by_cases hkn : k < n
    · have hcell := hM.out.cell hkn
      have hfro := hM.out.frozen k
      have hki : (k : Int) < (n : Int) := by omega
      obtain ⟨b1, off1, rfl, hlt1, hc1⟩ := HX.out (by omega)
      have hcx := (hB.out.cell (p := ⟨b1, off1 + k, none⟩) hlt1).trans (hc1 k (by omega))
      have hval := u64_andNot_nat (A k) (wd b B k) (HA.out k) (wd_lt HB.out k)
      clear hc1
      go_wp2_with fail
      go_still_tail 11, (by kernel_rfl)
      still_call (word_any y b c' k B _ hb (by omega) (HY.out.since hB.out.drew))
      repeat still_step
      refine wpStill_nil ?_
      change wpList _ _ _ _ _ wr.drew
      go_wp2_with fail
      go_roundw
      case rel => exact ⟨k + 1, by omega, by go_num, hM.out.step _ rfl, (hB.out.setCell (p := ⟨g, k, none⟩) (by rw [HG.out]; exact Nat.le_refl _) _).drew⟩
      case measure => simp [intOf]; omega
    · have : k = n := by omega
      subst this
      go_wp2
      go_ret
      exact ⟨g, rfl, by rw [HG.out]; exact Nat.le_refl _, hM.out.whole, hB.out⟩

end Go.Proofs.YtkaaokaiealbmaaDoor
