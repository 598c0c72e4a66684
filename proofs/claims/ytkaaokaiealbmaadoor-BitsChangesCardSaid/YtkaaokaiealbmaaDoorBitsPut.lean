/- The walks through Put and Drop, which write to a set of one's own. -/
import Derived.Test.YtkaaokaiealbmaaDoorBitsMake
namespace Go.Proofs.YtkaaokaiealbmaaDoor
open Go.RowKit
set_option linter.unusedVariables false

/-- nothing but block g may have turned -/
structure But (g : Nat) (w w' : World) : Prop where
  os : w'.os = w.os
  tape : w'.tape = w.tape
  output : w'.output = w.output
  size : w'.heap.size = w.heap.size
  block : ∀ k, k ≠ g → w'.heap[k]? = w.heap[k]?
theorem But.drewN (g : Nat) (w : World) (q : Nat) : But g w (w.drewN q) := ⟨rfl, rfl, rfl, rfl, fun _ _ => rfl⟩
theorem But.refl (g : Nat) (w : World) : But g w w := ⟨rfl, rfl, rfl, rfl, fun _ _ => rfl⟩
theorem But.trans {g : Nat} {a b c : World} (h : But g a b) (k : But g b c) : But g a c :=
  ⟨k.os.trans h.os, k.tape.trans h.tape, k.output.trans h.output, k.size.trans h.size, fun i hi => (k.block i hi).trans (h.block i hi)⟩
theorem But.setCell (g i : Nat) (v : Value) (w : World) : But g w (w.setCell ⟨g, i, none⟩ v) :=
  ⟨rfl, rfl, rfl, by simp [World.setCell], fun k hk => Below.heap_setCell _ _ _ _ hk⟩
theorem But.drew {g : Nat} {w w' : World} (h : But g w w') : But g w w'.drew := ⟨h.os, h.tape, h.output, h.size, h.block⟩
theorem But.below {g B : Nat} {w0 w w' : World} (h : But g w w') (hb : Below B w0 w) (hg : B ≤ g) : Below B w0 w' :=
  hb.trans ⟨h.os, h.tape, h.output, by rw [h.size]; exact Nat.le_refl _, fun k hk => h.block k (by omega)⟩

/-- i put in; taken out -/
def putW (A : Nat → Nat) (i : Nat) : Nat → Nat := fun j => if j = i / 64 then A j ||| pw i else A j
def dropW (A : Nat → Nat) (i : Nat) : Nat → Nat := fun j => if j = i / 64 then A j &&& (18446744073709551615 - pw i) else A j
theorem putW_lt {A : Nat → Nat} (h : ∀ j, A j < 18446744073709551616) (i j : Nat) : putW A i j < 18446744073709551616 := by
  unfold putW; split
  · exact Nat.or_lt_two_pow (n := 64) (h j) (pow_lt64 i)
  · exact h j
theorem dropW_lt {A : Nat → Nat} (h : ∀ j, A j < 18446744073709551616) (i j : Nat) : dropW A i j < 18446744073709551616 := by
  unfold dropW; split
  · exact Nat.lt_of_le_of_lt Nat.and_le_left (h j)
  · exact h j
theorem hasB_nat {n i : Nat} {A : Nat → Nat} (h : i < 64 * n) : hasB n A (i : Int) = (A (i / 64)).testBit (i % 64) := by
  have : (0 : Int) ≤ (i : Int) ∧ (i : Int) < 64 * (n : Int) := by omega
  simp [hasB, this]

theorem put_new (g n cap i : Nat) (A : Nat → Nat) (w : World) (hn : n ≤ 100000) (hi : i < 64 * n) (hA : ∀ j, A j < 18446744073709551616) (hM : Mine .u64 48 w g n (fun j => (A j : Int))) (hh : (A (i / 64)).testBit (i % 64) = false) :
    Calls Tryd.prog 23 #[.slice (some ⟨g, 0, none⟩) n cap, .int .i64 i] w fun e w' => e = .returned (.bool true) ∧ Mine .u64 48 w' g n (fun j => (putW A i j : Int)) ∧ But g w w' := by
  have HM := hidden hM
  have HA := hidden hA
  obtain ⟨m, hm⟩ : ∃ m, m = i / 64 := ⟨_, rfl⟩
  have hmn : m < n := by omega
  have hmi : (m : Int) < (n : Int) := by omega
  have hwr : IntKind.i64.wrap ((i : Int) / 64) = (m : Int) := by rw [IntKind.wrap_i64]; omega
  rw [← hm] at hh
  have HMI := hidden hm
  clear hm
  clear hM hA
  go_enter Tryd.func23, Tryd.ntmps23
  go_wp2_with fail
  refine (reaches_yes _ n cap i _ hn hi).mono ?_
  rintro e w1 ⟨rfl, hw1⟩
  rw [hw1]
  clear hw1 w1
  go_wp2_with fail
  refine (has_any _ n cap A i _ hn (by omega) HA.out HM.out.rows).mono ?_
  rintro e w1 ⟨rfl, q, hw1⟩
  rw [hasB_nat hi, ← HMI.out, hh]
  have HM1 : Hid (Mine .u64 48 w1 g n (fun j => (A j : Int))) := by rw [hw1]; exact HM
  have HB1 : Hid (But g w w1) := by rw [hw1]; exact But.drewN g w q
  clear hw1 HM hh
  have hcell := HM1.out.cell hmn
  have hfro := HM1.out.frozen m
  have hval := u64_or_nat (A m) (pw i) (HA.out _) (pow_lt64 i)
  go_wp2_with fail
  go_still_tail 9, (by kernel_rfl)
  still_call (bit_any i _ (by omega))
  repeat still_step
  refine wpStill_nil ?_
  change wpList _ _ _ _ _ w1.drew
  go_wp2_with fail
  go_ret
  refine ⟨rfl, ?_, (HB1.out.trans (But.setCell g m _ w1)).drew⟩
  refine (HM1.out.set m _).congr fun j hj => ?_
  unfold putW
  rw [← HMI.out]
  split
  · rename_i h; rw [h]
  · rfl

theorem put_old (g n cap i : Nat) (A : Nat → Nat) (w : World) (hn : n ≤ 100000) (hi : i < 64 * n) (hA : ∀ j, A j < 18446744073709551616) (hM : Mine .u64 48 w g n (fun j => (A j : Int))) (hh : (A (i / 64)).testBit (i % 64) = true) :
    Calls Tryd.prog 23 #[.slice (some ⟨g, 0, none⟩) n cap, .int .i64 i] w fun e w' => e = .returned (.bool false) ∧ ∃ q, w' = w.drewN q := by
  have HM := hidden hM
  have HA := hidden hA
  clear hM hA
  go_enter Tryd.func23, Tryd.ntmps23
  go_wp2_with fail
  refine (reaches_yes _ n cap i _ hn hi).mono ?_
  rintro e w1 ⟨rfl, hw1⟩
  rw [hw1]
  clear hw1 w1
  go_wp2_with fail
  refine (has_any _ n cap A i _ hn (by omega) HA.out HM.out.rows).mono ?_
  rintro e w1 ⟨rfl, q, hw1⟩
  rw [hasB_nat hi, hh, hw1]
  clear hw1 w1
  go_wp2_with fail
  go_ret
  exact ⟨rfl, q, rfl⟩
theorem reaches_not (a : Option Addr) (n cap : Nat) (i : Int) (hn : n ≤ 100000) (h : ¬ (0 ≤ i ∧ i < 64 * (n : Int))) (hi : i ≤ 9223372036854775807) (w : World) :
    Calls Tryd.prog 37 #[.slice a n cap, .int .i64 i] w fun e w' => e = .returned (.bool false) ∧ w' = w := by
  by_cases h0 : i < 0
  · exact reaches_low a n cap i w h0
  · obtain ⟨m, rfl⟩ : ∃ m : Nat, i = (m : Int) := ⟨i.toNat, by omega⟩
    exact reaches_high a n cap m w hn (by omega) (by omega)
theorem put_not (a : Option Addr) (n cap : Nat) (i : Int) (w : World) (hn : n ≤ 100000) (h : ¬ (0 ≤ i ∧ i < 64 * (n : Int))) (hi : i ≤ 9223372036854775807) :
    Calls Tryd.prog 23 #[.slice a n cap, .int .i64 i] w fun e w' => e = .returned (.bool false) ∧ ∃ q, w' = w.drewN q := by
  have hr := reaches_not a n cap i hn h hi
  clear h
  go_enter Tryd.func23, Tryd.ntmps23
  go_wp2_with fail
  refine (hr _).mono ?_
  rintro e w1 ⟨rfl, hw1⟩
  rw [hw1]
  clear hw1 w1
  go_wp2_with fail
  go_ret
  exact ⟨rfl, 0, rfl⟩

theorem drop_old (g n cap i : Nat) (A : Nat → Nat) (w : World) (hn : n ≤ 100000) (hi : i < 64 * n) (hA : ∀ j, A j < 18446744073709551616) (hM : Mine .u64 48 w g n (fun j => (A j : Int))) (hh : (A (i / 64)).testBit (i % 64) = true) :
    Calls Tryd.prog 22 #[.slice (some ⟨g, 0, none⟩) n cap, .int .i64 i] w fun e w' => e = .returned (.bool true) ∧ Mine .u64 48 w' g n (fun j => (dropW A i j : Int)) ∧ But g w w' := by
  have HM := hidden hM
  have HA := hidden hA
  obtain ⟨m, hm⟩ : ∃ m, m = i / 64 := ⟨_, rfl⟩
  have hmn : m < n := by omega
  have hmi : (m : Int) < (n : Int) := by omega
  have hwr : IntKind.i64.wrap ((i : Int) / 64) = (m : Int) := by rw [IntKind.wrap_i64]; omega
  rw [← hm] at hh
  have HMI := hidden hm
  clear hm
  clear hM hA
  go_enter Tryd.func22, Tryd.ntmps22
  go_wp2_with fail
  refine (has_any _ n cap A i _ hn (by omega) HA.out HM.out.rows).mono ?_
  rintro e w1 ⟨rfl, q, hw1⟩
  rw [hasB_nat hi, ← HMI.out, hh]
  have HM1 : Hid (Mine .u64 48 w1 g n (fun j => (A j : Int))) := by rw [hw1]; exact HM
  have HB1 : Hid (But g w w1) := by rw [hw1]; exact But.drewN g w q
  clear hw1 HM hh
  have hcell := HM1.out.cell hmn
  have hfro := HM1.out.frozen m
  have hval := u64_andNot_nat (A m) (pw i) (HA.out _) (pow_lt64 i)
  go_wp2_with fail
  go_still_tail 9, (by kernel_rfl)
  still_call (bit_any i _ (by omega))
  repeat still_step
  refine wpStill_nil ?_
  change wpList _ _ _ _ _ w1.drew
  go_wp2_with fail
  go_ret
  refine ⟨rfl, ?_, (HB1.out.trans (But.setCell g m _ w1)).drew⟩
  refine (HM1.out.set m _).congr fun j hj => ?_
  unfold dropW
  rw [← HMI.out]
  split
  · rename_i h; rw [h]
  · rfl
theorem drop_not (a : Option Addr) (n cap : Nat) (A : Nat → Nat) (i : Int) (w : World) (hn : n ≤ 100000) (hi : i ≤ 9223372036854775807) (hA : ∀ j, A j < 18446744073709551616) (ha : Rows' .u64 w a n (fun j => (A j : Int))) (hh : hasB n A i = false) :
    Calls Tryd.prog 22 #[.slice a n cap, .int .i64 i] w fun e w' => e = .returned (.bool false) ∧ ∃ q, w' = w.drewN q := by
  have HM := hidden ha
  have HA := hidden hA
  clear ha hA
  go_enter Tryd.func22, Tryd.ntmps22
  go_wp2_with fail
  refine (has_any _ n cap A i _ hn (by omega) HA.out HM.out).mono ?_
  rintro e w1 ⟨rfl, q, hw1⟩
  rw [hh, hw1]
  clear hw1 w1
  go_wp2_with fail
  go_ret
  exact ⟨rfl, q, rfl⟩

end Go.Proofs.YtkaaokaiealbmaaDoor
