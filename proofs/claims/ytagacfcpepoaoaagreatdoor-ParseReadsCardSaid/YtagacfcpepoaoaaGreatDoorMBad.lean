/- ExprBad, ExprBad2, in one text. -/
import Derived.Test.YtagacfcpepoaoaaGreatDoorMPut
namespace Go.Proofs.YtagacfcpepoaoaaGreatDoor
open Go.RowKit
set_option linter.unusedVariables false

variable {B g : Nat} {L : List Tk} {w : World} {R : Bx} {d : Nat} {f : Flt}
set_option maxRecDepth 100000 in
theorem single_bad (H : Bad B g L w R d f) :
    Calls Tryz.prog 107 #[.pointer (some ⟨g, 0, none⟩)] w fun en w' => en = .returned (.int .i64 (-1)) ∧ Below w.heap.size w w' := by
  have HH := hidden H
  clear H
  go_enter Tryz.func107, Tryz.ntmps107
  rw [veil 2, veil 14, veil 20]
  go_wp2_with fail
  refine (b_token HH.out).mono ?_
  rintro en w1 ⟨K, N, A, X, rfl, hb1⟩
  have HB1 := hidden hb1
  clear hb1
  go_wp2_with fail
  obtain ⟨W, hW⟩ : ∃ W, W = w1.alloc (.cells #[.int .i64 (K : Int), .string X, .int .i64 (N : Int), .int .i64 (A : Int)] 49) := ⟨_, rfl⟩
  obtain ⟨G, hG⟩ : ∃ G, G = w1.heap.size := ⟨_, rfl⟩
  have HG : Hid (Held W G 49 #[.int .i64 (K : Int), .string X, .int .i64 (N : Int), .int .i64 (A : Int)]) := by rw [hW, hG]; exact Held.new _ _ _
  have HB : Hid (Below w.heap.size w W) := by rw [hW]; exact HB1.out.alloc HB1.out.size _
  rw [← hW, ← hG]
  clear hW hG HB1
  refine wp_veil ?_
  go_wp2_with fail
  refine (b_is lp (HH.out.below HB.out)).mono ?_
  rintro en w2 ⟨rfl, hb⟩
  replace HG := hidden (HG.out.since hb)
  replace HB := hidden (below_then HB.out hb)
  clear hb
  go_wp2_with fail
  refine (b_skip wTrue (HH.out.below HB.out)).mono ?_
  rintro en w3 ⟨rfl, hb⟩
  replace HG := hidden (HG.out.since hb)
  replace HB := hidden (below_then HB.out hb)
  clear hb
  go_wp2_with fail
  refine (b_skip wFalse (HH.out.below HB.out)).mono ?_
  rintro en w4 ⟨rfl, hb⟩
  replace HG := hidden (HG.out.since hb)
  replace HB := hidden (below_then HB.out hb)
  clear hb
  go_wp2_with fail
  refine (b_skip wNil (HH.out.below HB.out)).mono ?_
  rintro en w5 ⟨rfl, hb⟩
  replace HG := hidden (HG.out.since hb)
  replace HB := hidden (below_then HB.out hb)
  clear hb
  go_wp2_with fail
  refine (b_skip wLen (HH.out.below HB.out)).mono ?_
  rintro en w6 ⟨rfl, hb⟩
  replace HG := hidden (HG.out.since hb)
  replace HB := hidden (below_then HB.out hb)
  clear hb
  go_wp2_with fail
  refine (b_skip wNew (HH.out.below HB.out)).mono ?_
  rintro en w7 ⟨rfl, hb⟩
  replace HG := hidden (HG.out.since hb)
  replace HB := hidden (below_then HB.out hb)
  clear hb
  go_wp2_with fail
  refine wp_veil ?_
  have z0 := HG.out.t0
  by_cases hk : K = 2
  · have hk2 : ((K : Int) == 2) = true := by simp; omega
    go_wp2_with fail
    refine (b_canTake (HH.out.below HB.out)).mono ?_
    rintro en w20 ⟨rfl, hb⟩
    replace HG := hidden (HG.out.since hb)
    replace HB := hidden (below_then HB.out hb)
    clear hb z0
    go_wp2_with fail
    refine (b_name (HH.out.below HB.out)).mono ?_
    rintro en w21 ⟨rfl, hb⟩
    replace HG := hidden (HG.out.since hb)
    replace HB := hidden (below_then HB.out hb)
    clear hb
    go_wp2_with fail
    refine (b_is lp (HH.out.below HB.out)).mono ?_
    rintro en w22 ⟨rfl, hb⟩
    replace HG := hidden (HG.out.since hb)
    replace HB := hidden (below_then HB.out hb)
    clear hb
    have z3 := HG.out.t3
    go_wp2_with fail
    refine wp_veil ?_
    go_wp2_with fail
    refine (b_put _ _ _ _ _ (HH.out.below HB.out)).mono ?_
    rintro en w23 ⟨rfl, hb⟩
    replace HB := hidden (below_then HB.out hb)
    clear hb
    go_wp2_with fail
    go_ret
    exact ⟨rfl, HB.out⟩
  · have hk2 : ((K : Int) == 2) = false := by simp; omega
    go_wp2_with fail
    refine (b_name (HH.out.below HB.out)).mono ?_
    rintro en w21 ⟨rfl, hb⟩
    replace HG := hidden (HG.out.since hb)
    replace HB := hidden (below_then HB.out hb)
    clear hb
    go_wp2_with fail
    refine (b_is lp (HH.out.below HB.out)).mono ?_
    rintro en w22 ⟨rfl, hb⟩
    replace HG := hidden (HG.out.since hb)
    replace HB := hidden (below_then HB.out hb)
    clear hb
    have z3 := HG.out.t3
    go_wp2_with fail
    refine wp_veil ?_
    go_wp2_with fail
    refine (b_put _ _ _ _ _ (HH.out.below HB.out)).mono ?_
    rintro en w23 ⟨rfl, hb⟩
    replace HB := hidden (below_then HB.out hb)
    clear hb
    go_wp2_with fail
    go_ret
    exact ⟨rfl, HB.out⟩
theorem indexed_bad (H : Bad B g L w R d f) :
    Calls Tryz.prog 103 #[.pointer (some ⟨g, 0, none⟩)] w fun en w' => en = .returned (.int .i64 (-1)) ∧ Below w.heap.size w w' := by
  have HH := hidden H
  clear H
  have HB : Hid (Below w.heap.size w w) := Below.refl _ _
  go_enter Tryz.func103, Tryz.ntmps103
  go_wp2_with fail
  refine (single_bad (HH.out.below HB.out)).mono ?_
  rintro en w1 ⟨rfl, hb⟩
  replace HB := hidden (below_then HB.out hb)
  clear hb
  go_wp2_with fail
  go_loopw [3] (fun t3 wr => wr = w1 ∧ t3 = .int .i64 (-1)) (fun _ _ => 0)
  case atStart => exact ⟨rfl, rfl⟩
  case round =>
    obtain ⟨rfl, rfl⟩ := hrel
    go_wp2_with fail
    refine (b_is lb (HH.out.below HB.out)).mono ?_
    rintro en w2 ⟨rfl, hb⟩
    replace HB := hidden (below_then HB.out hb)
    clear hb
    go_wp2_with fail
    go_ret
    exact ⟨rfl, HB.out⟩
end Go.Proofs.YtagacfcpepoaoaaGreatDoor

namespace Go.Proofs.YtagacfcpepoaoaaGreatDoor
open Go.RowKit
set_option linter.unusedVariables false

variable {B g : Nat} {L : List Tk} {w : World} {R : Bx} {d : Nat} {f : Flt} {s : PS}
theorem front_ix : ∀ (j : Nat), j < 2 → ∀ (w : World), (Instr.index 109 (.agg frontCells) (.int .i64 (j : Int))).run Tryz.prog w = .ok (.agg #[.string ⟨(if j = 0 then minus else bang).toArray⟩, .int .i64 (if j = 0 then 6 else 7)]) w
  | 0, _, w => by kernel_rfl
  | 1, _, w => by kernel_rfl
  | n + 2, h, _ => by omega
theorem Bad.tabs (H : Bad B g L w R d f) : XTabs w := by
  obtain ⟨p, l, h, H, _⟩ := H
  exact H.tabs
theorem Good.tabs (H : Good B g L w R d s) : XTabs w := by
  obtain ⟨p, l, H, _⟩ := H
  exact H.tabs
theorem str_at {w : World} (h : XTabs w) {lv : Nat} (hl : lv < 5) : w.cell? ⟨2, lv * 3, none⟩ = some (.int .i64 (opFirst lv : Int)) ∧ w.cell? ⟨2, lv * 3 + 1, none⟩ = some (.int .i64 (opLast lv : Int)) ∧ w.cell? ⟨2, lv * 3 + 2, none⟩ = some (.bool (lv == 2)) := by
  obtain ⟨t, fr, h⟩ := h.str
  have e : ∀ j, w.cell? ⟨2, j, none⟩ = strCells[j]? := fun j => by simp [World.cell?, h]
  rw [e, e, e]
  match lv, hl with
  | 0, _ => exact ⟨by kernel_rfl, by kernel_rfl, by kernel_rfl⟩
  | 1, _ => exact ⟨by kernel_rfl, by kernel_rfl, by kernel_rfl⟩
  | 2, _ => exact ⟨by kernel_rfl, by kernel_rfl, by kernel_rfl⟩
  | 3, _ => exact ⟨by kernel_rfl, by kernel_rfl, by kernel_rfl⟩
  | 4, _ => exact ⟨by kernel_rfl, by kernel_rfl, by kernel_rfl⟩
theorem xsign_row : ∀ op, op < 17 → xsignCells[op]? = some (.string ⟨(tSigns.getD op []).toArray⟩)
  | 0, _ => by kernel_rfl
  | 1, _ => by kernel_rfl
  | 2, _ => by kernel_rfl
  | 3, _ => by kernel_rfl
  | 4, _ => by kernel_rfl
  | 5, _ => by kernel_rfl
  | 6, _ => by kernel_rfl
  | 7, _ => by kernel_rfl
  | 8, _ => by kernel_rfl
  | 9, _ => by kernel_rfl
  | 10, _ => by kernel_rfl
  | 11, _ => by kernel_rfl
  | 12, _ => by kernel_rfl
  | 13, _ => by kernel_rfl
  | 14, _ => by kernel_rfl
  | 15, _ => by kernel_rfl
  | 16, _ => by kernel_rfl
  | n + 17, h => by omega
theorem xsign_at {w : World} (h : XTabs w) {op : Nat} (hl : op < 17) : w.cell? ⟨3, op, none⟩ = some (.string ⟨(tSigns.getD op []).toArray⟩) := by
  obtain ⟨t, fr, h⟩ := h.sign
  have e : ∀ j, w.cell? ⟨3, j, none⟩ = xsignCells[j]? := fun j => by simp [World.cell?, h]
  rw [e]
  exact xsign_row op hl
theorem op_bounds {lv : Nat} (hl : lv < 5) : 1 ≤ opFirst lv ∧ opFirst lv ≤ opLast lv ∧ opLast lv ≤ 16 := by
  match lv, hl with
  | 0, _ => decide
  | 1, _ => decide
  | 2, _ => decide
  | 3, _ => decide
  | 4, _ => decide
set_option maxRecDepth 100000 in
theorem fronted_bad (H : Bad B g L w R d f) :
    Calls Tryz.prog 98 #[.pointer (some ⟨g, 0, none⟩)] w fun en w' => en = .returned (.int .i64 (-1)) ∧ Below w.heap.size w w' := by
  have HH := hidden H
  clear H
  have HB : Hid (Below w.heap.size w w) := Below.refl _ _
  have hfd := field_at
  go_enter Tryz.func98, Tryz.ntmps98
  rw [veil 5]
  go_wp2_with fail
  refine (b_token HH.out).mono ?_
  rintro en w1 ⟨K, N, A, X, rfl, hb⟩
  replace HB := hidden (below_then HB.out hb)
  clear hb
  obtain ⟨tt, fr, hg⟩ := (HH.out.below HB.out).tabs.front
  have HG := hidden hg
  clear hg
  go_wp2_with (refine wpList_load_row rfl 109 _ rfl 4 rfl tt _ fr _ HG.out Tryz.underlying109 rfl (by kernel_rfl) ?_)
  go_loopw [11] (fun t11 wr => ∃ k : Nat, k ≤ 2 ∧ t11 = .int .i64 (k : Int) ∧ Hid (Below w.heap.size w wr)) (fun t11 _ => 2 - (intOf t11).toNat)
  case atStart => exact ⟨0, by omega, rfl, HB⟩
  case round =>
    obtain ⟨k, hk, rfl, HBr⟩ := hrel
    by_cases hlt : k < 2
    · have hix := front_ix k hlt
      obtain ⟨c, hc⟩ : ∃ c, c = (if k = 0 then minus else bang) := ⟨_, rfl⟩
      obtain ⟨m, hm⟩ : ∃ m : Int, m = (if k = 0 then 6 else 7) := ⟨_, rfl⟩
      rw [← hc, ← hm] at hix
      clear hc hm
      go_wp2_with fail
      obtain ⟨W, hW⟩ : ∃ W, W = wr.alloc (.cells #[.string ⟨c.toArray⟩, .int .i64 m] 108) := ⟨_, rfl⟩
      obtain ⟨G, hG⟩ : ∃ G, G = wr.heap.size := ⟨_, rfl⟩
      have hH : Held W G 108 #[.string ⟨c.toArray⟩, .int .i64 m] := by rw [hW, hG]; exact Held.new _ _ _
      have z0 : W.cell? ⟨G, 0, none⟩ = some (.string ⟨c.toArray⟩) := hH.at_ rfl
      have HB2 : Hid (Below w.heap.size w W) := by rw [hW]; exact HBr.out.alloc HBr.out.size _
      rw [← hW, ← hG]
      clear hW hG hH
      refine wp_veil ?_
      go_wp2_with fail
      refine (b_skip c (HH.out.below HB2.out)).mono ?_
      rintro en w2 ⟨rfl, hb⟩
      have HB3 := hidden (below_then HB2.out hb)
      clear hb
      go_wp2_with fail
      go_roundw
      case rel => exact ⟨k + 1, by omega, by go_num, HB3⟩
      case measure => simp [intOf]; omega
    · obtain rfl : k = 2 := by omega
      go_wp2_with fail
      refine (indexed_bad (HH.out.below HBr.out)).mono ?_
      rintro en w2 ⟨rfl, hb⟩
      have HB3 := hidden (below_then HBr.out hb)
      clear hb
      go_wp2_with fail
      go_ret
      exact ⟨rfl, HB3.out⟩
theorem chain5_bad (H : Bad B g L w R d f) :
    Calls Tryz.prog 90 #[.pointer (some ⟨g, 0, none⟩), .int .i64 5] w fun en w' => en = .returned (.int .i64 (-1)) ∧ Below w.heap.size w w' := by
  have HH := hidden H
  clear H
  go_enter Tryz.func90, Tryz.ntmps90
  go_wp2_with fail
  go_step3
  go_wp2_with fail
  refine (fronted_bad HH.out).mono ?_
  rintro en w2 ⟨rfl, hb⟩
  have HB3 := hidden hb
  clear hb
  go_wp2_with fail
  try rw [Exit.noGoto_ret]
  go_ret
  exact ⟨rfl, HB3.out⟩
set_option maxRecDepth 100000 in
set_option maxHeartbeats 4000000 in
theorem chain_bad_of (lv : Nat) (hlv : lv < 5) (IH : ∀ w, Bad B g L w R d f → Calls Tryz.prog 90 #[.pointer (some ⟨g, 0, none⟩), .int .i64 ((lv : Int) + 1)] w fun en w' => en = .returned (.int .i64 (-1)) ∧ Below w.heap.size w w') (H : Bad B g L w R d f) :
    Calls Tryz.prog 90 #[.pointer (some ⟨g, 0, none⟩), .int .i64 (lv : Int)] w fun en w' => en = .returned (.int .i64 (-1)) ∧ Below w.heap.size w w' := by
  have HH := hidden H
  have HIH := hidden IH
  obtain ⟨x0, x1, x2⟩ := str_at H.tabs hlv
  have hob := op_bounds hlv
  obtain ⟨o1, ho1⟩ : ∃ o1, o1 = opFirst lv := ⟨_, rfl⟩
  obtain ⟨o2, ho2⟩ : ∃ o2, o2 = opLast lv := ⟨_, rfl⟩
  obtain ⟨once, hon⟩ : ∃ once, once = (lv == 2) := ⟨_, rfl⟩
  rw [← ho1] at x0 hob
  rw [← ho2] at x1 hob
  rw [← hon] at x2
  clear H IH ho1 ho2 hon
  obtain ⟨hq1, hq2, hq3⟩ := hob
  have hne : ((lv : Int) == 5) = false := by simp; omega
  have hfd := field_at
  go_enter Tryz.func90, Tryz.ntmps90
  rw [veil 4]
  go_wp2_with fail
  go_step3
  go_wp2_with fail
  obtain ⟨W, hW⟩ : ∃ W, W = w.alloc (.cells #[.int .i64 (o1 : Int), .int .i64 (o2 : Int), .bool once] 101) := ⟨_, rfl⟩
  obtain ⟨G, hG⟩ : ∃ G, G = w.heap.size := ⟨_, rfl⟩
  have HG : Hid (Held W G 101 #[.int .i64 (o1 : Int), .int .i64 (o2 : Int), .bool once]) := by rw [hW, hG]; exact Held.new _ _ _
  have HB : Hid (Below w.heap.size w W) := by rw [hW]; exact (Below.refl _ _).alloc (Nat.le_refl _) _
  rw [← hW, ← hG]
  clear hW hG x0 x1 x2 hne
  refine wp_veil ?_
  go_wp2_with fail
  refine (HIH.out W (HH.out.below HB.out)).mono ?_
  rintro en w1 ⟨rfl, hb⟩
  replace HG := hidden (HG.out.since hb)
  replace HB := hidden (below_then HB.out hb)
  clear hb
  go_wp2_with fail
  go_step3
  go_wp2_with fail
  go_loopw [6] (fun t6 wr => t6 = .int .i64 (-1) ∧ wr = w1) (fun _ _ => 0)
  case atStart => exact ⟨rfl, rfl⟩
  case round =>
    obtain ⟨rfl, rfl⟩ := hrel
    go_wp2_with fail
    refine (b_token (HH.out.below HB.out)).mono ?_
    rintro en w2 ⟨K, N, A, X, rfl, hb⟩
    replace HG := hidden (HG.out.since hb)
    replace HB := hidden (below_then HB.out hb)
    clear hb
    have z0 : w2.cell? ⟨G, 0, none⟩ = some (.int .i64 (o1 : Int)) := HG.out.at_ rfl
    go_wp2_with fail
    go_loopw [6, 8] (fun t6 t8 wr => ∃ k : Nat, t6 = .int .i64 (-1) ∧ o1 ≤ k ∧ k ≤ o2 + 1 ∧ t8 = .int .i64 (k : Int) ∧ Hid (Below w.heap.size w wr) ∧ Hid (Held wr G 101 #[.int .i64 (o1 : Int), .int .i64 (o2 : Int), .bool once])) (fun _ t8 _ => o2 + 1 - (intOf t8).toNat)
    case atStart => exact ⟨o1, rfl, by omega, by omega, rfl, HB, HG⟩
    case round =>
      obtain ⟨k, rfl, hk1, hk2, rfl, HBr, HGr⟩ := hrel
      have z1 : wr.cell? ⟨G, 1, none⟩ = some (.int .i64 (o2 : Int)) := HGr.out.at_ rfl
      clear z0
      by_cases hlt : k ≤ o2
      · have hlti : (k : Int) ≤ (o2 : Int) := by omega
        have c1 := xsign_at (HH.out.below HBr.out).tabs (op := k) (by omega)
        obtain ⟨c, hc⟩ : ∃ c, c = tSigns.getD k [] := ⟨_, rfl⟩
        rw [← hc] at c1
        clear hc
        go_wp2_with fail
        refine (b_skip c (HH.out.below HBr.out)).mono ?_
        rintro en w3 ⟨rfl, hb⟩
        have HB3 := hidden (below_then HBr.out hb)
        have HG3 := hidden (HGr.out.since hb)
        clear hb
        go_wp2_with fail
        go_roundw
        case rel => exact ⟨k + 1, rfl, by omega, by omega, by go_num, HB3, HG3⟩
        case measure => simp [intOf]; omega
      · have hlti : ¬ (k : Int) ≤ (o2 : Int) := by omega
        go_wp2_with fail
        try rw [Exit.noGoto_ret]
        go_ret
        exact ⟨rfl, HBr.out⟩
theorem chain_bad (lv : Nat) (hlv : lv ≤ 5) (H : Bad B g L w R d f) :
    Calls Tryz.prog 90 #[.pointer (some ⟨g, 0, none⟩), .int .i64 (lv : Int)] w fun en w' => en = .returned (.int .i64 (-1)) ∧ Below w.heap.size w w' := by
  have key : ∀ n, n ≤ 5 → ∀ w, Bad B g L w R d f → Calls Tryz.prog 90 #[.pointer (some ⟨g, 0, none⟩), .int .i64 ((5 - n : Nat) : Int)] w fun en w' => en = .returned (.int .i64 (-1)) ∧ Below w.heap.size w w' := by
    intro n
    induction n with
    | zero => intro _ w h; exact chain5_bad h
    | succ n ih =>
      intro hn w h
      refine chain_bad_of (5 - (n + 1)) (by omega) (fun w' h' => ?_) h
      have := ih (by omega) w' h'
      rw [show ((5 - n : Nat) : Int) = ((5 - (n + 1) : Nat) : Int) + 1 by omega] at this
      exact this
  have := key (5 - lv) (by omega) w H
  rw [show 5 - (5 - lv) = lv by omega] at this
  exact this
theorem expr_bad (H : Bad B g L w R d f) :
    Calls Tryz.prog 65 #[.pointer (some ⟨g, 0, none⟩)] w fun en w' => en = .returned (.int .i64 (-1)) ∧ Below w.heap.size w w' := by
  have HH := hidden H
  clear H
  go_enter Tryz.func65, Tryz.ntmps65
  go_wp2_with fail
  refine (chain_bad 0 (by omega) HH.out).mono ?_
  rintro en w2 ⟨rfl, hb⟩
  have HB3 := hidden hb
  clear hb
  go_wp2_with fail
  go_ret
  exact ⟨rfl, HB3.out⟩
/-- 1, if it is true -/
def boolN (v : Value) : Nat := match v with
  | .bool true => 1
  | _ => 0
set_option maxRecDepth 100000 in
theorem args_bad (H : Bad B g L w R d f) :
    Calls Tryz.prog 108 #[.pointer (some ⟨g, 0, none⟩)] w fun en w' => (∃ a n c, en = .returned (.slice a n c)) ∧ Below w.heap.size w w' := by
  have HH := hidden H
  clear H
  have HB : Hid (Below w.heap.size w w) := Below.refl _ _
  go_enter Tryz.func108, Tryz.ntmps108
  go_wp2_with fail
  refine (b_is rp (HH.out.below HB.out)).mono ?_
  rintro en w1 ⟨rfl, hb⟩
  replace HB := hidden (below_then HB.out hb)
  clear hb
  go_wp2_with fail
  go_loopw [3, 4] (fun t3 t4 wr => (t3 = .slice none 0 0 ∧ t4 = .bool true ∧ wr = w1) ∨ (t4 = .bool false ∧ (∃ a n c, t3 = .slice a n c) ∧ Hid (Below w.heap.size w wr))) (fun _ t4 _ => boolN t4)
  case atStart => exact .inl ⟨rfl, rfl, rfl⟩
  case round =>
    rcases hrel with ⟨rfl, rfl, rfl⟩ | ⟨rfl, ⟨a, n, c, rfl⟩, HBr⟩
    · go_wp2_with fail
      refine (expr_bad (HH.out.below HB.out)).mono ?_
      rintro en w2 ⟨rfl, hb⟩
      replace HB := hidden (below_then HB.out hb)
      clear hb
      go_wp2_with (at_builtin; refine wpList_push rfl (.tmp 18) (.tmp 21) rfl w2 w2 _ [] _ rfl rfl ⟨⟨rfl, .inl ⟨rfl, rfl⟩⟩, Below.refl _ _⟩ (by decide) ?_; intro v1 w3 hb3)
      obtain ⟨a3, c3, rfl, _⟩ := hb3.rows
      have HB3 := hidden (below_then HB.out hb3.2)
      clear hb3
      go_wp2_with fail
      refine (b_skip comma (HH.out.below HB3.out)).mono ?_
      rintro en w4 ⟨rfl, hb⟩
      have HB4 := hidden (below_then HB3.out hb)
      clear hb
      go_wp2_with fail
      go_roundw
      case rel => exact .inr ⟨rfl, ⟨_, _, _, rfl⟩, HB4⟩
      case measure => exact Nat.zero_lt_one
    · go_wp2_with fail
      go_ret
      exact ⟨⟨_, _, _, rfl⟩, HBr.out⟩
end Go.Proofs.YtagacfcpepoaoaaGreatDoor
