/- Slices of ints that are built by append; the walks through Of and List. -/
import Derived.Test.YtkaaokaiealbmaaDoorBitsPut
namespace Go.Proofs.YtkaaokaiealbmaaDoor
open Go.RowKit
set_option linter.unusedVariables false

/-- v is a slice of one's own with the numbers xs, made since w0, and nothing that was there has turned -/
def Built (w0 w : World) (v : Value) (xs : List Int) : Prop :=
  w.ownsRow w0.heap.size 3 1 v xs.length (xs.map (Value.int .i64)) ∧ Below w0.heap.size w0 w
theorem Built.below {w0 w : World} {v : Value} {xs : List Int} (h : Built w0 w v xs) : Below w0.heap.size w0 w := h.2
theorem Built.rows {w0 w : World} {v : Value} {xs : List Int} (h : Built w0 w v xs) : ∃ a cap, v = .slice a xs.length cap ∧ Rows' .i64 w a xs.length (fun j => xs.getD j 0) := Rows'.own h.1
theorem Built.drewN {w0 w : World} {v : Value} {xs : List Int} (h : Built w0 w v xs) (q : Nat) : Built w0 (w.drewN q) v xs := ⟨h.1, ⟨h.2.os, h.2.tape, h.2.output, h.2.size, h.2.block⟩⟩
theorem Built.start (w : World) (h : Array Value) (hh : h = #[]) : Built w (w.alloc (.cells h 3)) (.slice (some ⟨w.heap.size, 0, none⟩) 0 0) [] := by
  subst hh
  exact ⟨⟨rfl, .inr ⟨w.heap.size, 0, #[], rfl, Nat.le_refl _, by show (w.heap.push _)[_]? = _; simp, Nat.le_refl _, by unfold maxLen; omega, rfl, rfl⟩⟩, (Below.refl _ _).alloc (Nat.le_refl _) _⟩

theorem wpList_push {ops : Array Oper} {rest : List Oper} {o : Oper} {a : Act} {Q : Exit → Act → World → Prop} (hgd : o.guard = none) (s x : Operand)
    (ho : o.op = .call { callee := .builtin .append, args := #[s, x], argTypes := #[22, 22] })
    (w0 w : World) (v : Value) (xs : List Int) (z : Int) (hs : a.eval s = v) (hx : a.eval x = .slice (some ⟨w.heap.size, 0, none⟩) 1 1) (hb : Built w0 w v xs) (hlen : xs.length ≤ 10000000)
    (h : ∀ v' w', Built w0 w' v' (xs ++ [z]) → wpList Tryd.prog ops Q rest (a.put o.dst v') w') :
    wpList Tryd.prog ops Q (o :: rest) a (w.alloc (.cells #[.int .i64 z] 3)) := by
  obtain ⟨i0, hi, hz0, hz1, hz2⟩ := info_parts infoI
  refine wpList_append_own _ hgd s x 22 ho w0.heap.size 3 i0 (.int .i64 0) 1 8 Tryd.underlying22 hi hz0 hz1 hz2 rfl (by decide) v xs.length (xs.map (Value.int .i64)) hs (hb.1.alloc _) ⟨w.heap.size, 0, none⟩ 1 1 [.int .i64 z] hx rfl ?_ ?_ ?_ ?_ ?_ ?_
  · intro j u hj
    match j, hj with
    | 0, hj => simp at hj; subst hj; simp [Addr.add]
  · intro u hu; simp at hu; subst hu; rfl
  · unfold maxLen; omega
  · omega
  · have := hb.2.size; simp; omega
  · intro v' w' hown hgrow _
    refine h v' w' ⟨by rw [List.length_append, List.map_append]; exact hown, ?_⟩
    refine ((hb.2.alloc hb.2.size _)).grown hgrow (by have := hb.2.size; simp; omega) ?_
    intro k hk
    exact (hb.1.lt k hk).1

theorem Tab.below {w w' : World} (h : Tab w) (hb : Below w.heap.size w w') : Tab w' := by
  intro j hj
  have hc := h j hj
  have hlt : 0 < w.heap.size := by
    have h0 := h 0 (by omega)
    simp only [World.cell?] at h0
    apply Nat.lt_of_not_le
    intro hle
    have e : w.heap[0]? = none := Array.getElem?_eq_none hle
    simp [e] at h0
  rw [hb.cell (p := ⟨0, j, none⟩) hlt]
  exact hc

theorem or_same (x i : Nat) (h : x.testBit (i % 64) = true) : x ||| pw i = x := by
  apply Nat.eq_of_testBit_eq
  intro j
  unfold pw
  rw [Nat.testBit_or, Nat.testBit_two_pow]
  by_cases hj : i % 64 = j
  · subst hj; simp [h]
  · simp [hj]
theorem put_any (g n cap i : Nat) (A : Nat → Nat) (w : World) (hn : n ≤ 100000) (hi : i < 64 * n) (hA : ∀ j, A j < 18446744073709551616) (hM : Mine .u64 48 w g n (fun j => (A j : Int))) :
    Calls Tryd.prog 23 #[.slice (some ⟨g, 0, none⟩) n cap, .int .i64 i] w fun e w' => e = .returned (.bool (!(A (i / 64)).testBit (i % 64))) ∧ Mine .u64 48 w' g n (fun j => (putW A i j : Int)) ∧ But g w w' := by
  cases hh : (A (i / 64)).testBit (i % 64)
  · exact put_new g n cap i A w hn hi hA hM hh
  · refine (put_old g n cap i A w hn hi hA hM hh).mono ?_
    rintro e w1 ⟨rfl, q, rfl⟩
    refine ⟨rfl, ?_, But.drewN g w q⟩
    refine (hM.drewN q).congr fun j hj => ?_
    unfold putW
    split
    · rename_i h; rw [h, or_same _ _ hh]
    · rfl

/-- the set of those of the first k numbers that are below u -/
def ofA (u : Nat) (f : Nat → Int) : Nat → Nat → Nat
  | 0 => fun _ => 0
  | k + 1 => if 0 ≤ f k ∧ f k < (u : Int) then putW (ofA u f k) (f k).toNat else ofA u f k
theorem ofA_lt (u : Nat) (f : Nat → Int) : ∀ k j, ofA u f k j < 18446744073709551616
  | 0, j => by show 0 < _; omega
  | k + 1, j => by
    unfold ofA
    split
    · exact putW_lt (ofA_lt u f k) _ j
    · exact ofA_lt u f k j

theorem of_not (u : Int) (a : Option Addr) (m c : Nat) (f : Nat → Int) (w : World) (h : isW u = false) (hm : m ≤ 100000) (ha : Rows' .i64 w a m f) (hf : ∀ j, j < m → f j ≤ 9223372036854775807) :
    Calls Tryd.prog 11 #[.int .i64 u, .slice a m c] w fun e w' => e = .returned (.slice none 0 0) ∧ ∃ q, w' = w.drewN q := by
  have HA := hidden ha
  have HF := hidden hf
  clear ha hf
  go_enter Tryd.func11, Tryd.ntmps11
  go_wp2_with fail
  refine (new_not u _ h).mono ?_
  rintro e w1 ⟨rfl, hw1⟩
  rw [hw1]
  clear hw1 w1
  go_wp2_with fail
  go_loopw [12] (fun i wr => ∃ k q : Nat, k ≤ m ∧ i = .int .i64 (k : Int) ∧ wr = w.drewN q) (fun i _ => m - (intOf i).toNat)
  case atStart => exact ⟨0, 0, by omega, rfl, rfl⟩
  case round =>
    obtain ⟨k, q, hk, rfl, hwr⟩ := hrel
    have HWR := hidden hwr
    by_cases hkm : k < m
    · obtain ⟨b, off, rfl, hlt, hc⟩ := HA.out (by omega)
      have hcell : wr.cell? ⟨b, off + k, none⟩ = some (.int .i64 (f k)) := by rw [hwr]; exact hc k hkm
      clear hc hwr
      have hki : (k : Int) < (m : Int) := by omega
      have hfk := HF.out k hkm
      by_cases hu : f k < u
      · go_wp2_with fail
        refine (put_not none 0 0 (f k) _ (by omega) (by omega) hfk).mono ?_
        rintro e w1 ⟨rfl, q1, hw1⟩
        rw [hw1]
        clear hw1 w1
        go_wp2_with fail
        go_roundw
        case rel => exact ⟨k + 1, q + q1, by omega, by go_num, by rw [HWR.out, World.drewN_drewN]⟩
        case measure => simp [intOf]; omega
      · go_wp2_with fail
        go_roundw
        case rel => exact ⟨k + 1, q, by omega, by go_num, HWR.out⟩
        case measure => simp [intOf]; omega
    · clear hwr
      go_wp2
      go_ret
      exact ⟨rfl, q, HWR.out⟩

theorem of_any (u n : Nat) (a : Option Addr) (m c : Nat) (f : Nat → Int) (w : World) (hu : u ≤ 65536) (hn : n = (u + 63) / 64) (hm : m ≤ 100000) (ha : Rows' .i64 w a m f) (hf : ∀ j, j < m → f j ≤ 9223372036854775807) :
    Calls Tryd.prog 11 #[.int .i64 u, .slice a m c] w fun e w' => ∃ g, e = .returned (.slice (some ⟨g, 0, none⟩) n n) ∧ w.heap.size ≤ g ∧ Mine .u64 48 w' g n (fun j => (ofA u f m j : Int)) ∧ Below w.heap.size w w' := by
  have hnl : n ≤ 1024 := by omega
  have hnu : u ≤ 64 * n := by omega
  obtain ⟨g, hg⟩ : ∃ g, g = w.heap.size := ⟨_, rfl⟩
  have HA := hidden ha
  have HF := hidden hf
  clear ha hf
  go_enter Tryd.func11, Tryd.ntmps11
  go_wp2_with fail
  refine (new_any u n _ hu hn).mono ?_
  rintro e w1 ⟨rfl, hw1⟩
  have hM : Mine .u64 48 w1 g n (fun _ => 0) := by rw [hw1, hg]; exact zeros_mine w n
  have hB : Below w.heap.size w w1 := by rw [hw1]; exact zeros_below w n
  have HG := hidden hg
  rw [← hg]
  clear hw1 hg hn
  have HM := hidden hM
  have HB := hidden hB
  clear hM hB
  go_wp2_with fail
  go_loopw [12] (fun i wr => ∃ k : Nat, k ≤ m ∧ i = .int .i64 (k : Int) ∧ Hid (Mine .u64 48 wr g n (fun j => (ofA u f k j : Int))) ∧ Hid (Below w.heap.size w wr)) (fun i _ => m - (intOf i).toNat)
  case atStart => exact ⟨0, by omega, rfl, HM, HB⟩
  case round =>
    obtain ⟨k, hk, rfl, hM, hB⟩ := hrel
    by_cases hkm : k < m
    · obtain ⟨b, off, rfl, hlt, hc⟩ := HA.out (by omega)
      have hcell := (hB.out.cell (p := ⟨b, off + k, none⟩) hlt).trans (hc k hkm)
      clear hc
      have hki : (k : Int) < (m : Int) := by omega
      have hfk := HF.out k hkm
      by_cases hx : f k < (u : Int)
      · by_cases h0 : 0 ≤ f k
        · obtain ⟨z, hz⟩ : ∃ z : Nat, f k = (z : Int) := ⟨(f k).toNat, by omega⟩
          have hofA : ofA u f (k + 1) = putW (ofA u f k) z := by
            show (if 0 ≤ f k ∧ f k < (u : Int) then putW (ofA u f k) (f k).toNat else ofA u f k) = _
            rw [if_pos ⟨h0, hx⟩, hz]; rfl
          rw [hz] at hcell hx hfk
          have HO := hidden hofA
          clear hz hofA h0
          go_wp2_with fail
          refine (put_any g n n z (ofA u f k) _ (by omega) (by omega) (ofA_lt u f k) hM.out).mono ?_
          rintro e w1 ⟨rfl, hM1, hb1⟩
          have HM1 := hidden hM1
          have HB1 := hidden (hb1.below hB.out (by rw [HG.out]; exact Nat.le_refl _))
          clear hM1 hb1 hcell
          go_wp2_with fail
          go_roundw
          case rel => exact ⟨k + 1, by omega, by go_num, by rw [HO.out]; exact HM1, HB1⟩
          case measure => simp [intOf]; omega
        · have hofA : ofA u f (k + 1) = ofA u f k := by
            show (if 0 ≤ f k ∧ f k < (u : Int) then putW (ofA u f k) (f k).toNat else ofA u f k) = _
            rw [if_neg (fun h => h0 h.1)]
          have HO := hidden hofA
          clear hofA
          go_wp2_with fail
          refine (put_not (some ⟨g, 0, none⟩) n n (f k) _ (by omega) (by omega) hfk).mono ?_
          rintro e w1 ⟨rfl, q1, hw1⟩
          rw [hw1]
          clear hw1 w1 hcell
          go_wp2_with fail
          go_roundw
          case rel => exact ⟨k + 1, by omega, by go_num, by rw [HO.out]; exact hM.out.drewN q1, hB.out.trans (below_drewN _ _ _)⟩
          case measure => simp [intOf]; omega
      · have hofA : ofA u f (k + 1) = ofA u f k := by
          show (if 0 ≤ f k ∧ f k < (u : Int) then putW (ofA u f k) (f k).toNat else ofA u f k) = _
          rw [if_neg (fun h => hx h.2)]
        have HO := hidden hofA
        clear hofA
        go_wp2_with fail
        go_roundw
        case rel => exact ⟨k + 1, by omega, by go_num, by rw [HO.out]; exact hM, hB⟩
        case measure => simp [intOf]; omega
    · have : k = m := by omega
      subst this
      go_wp2
      go_ret
      exact ⟨g, rfl, by rw [HG.out]; exact Nat.le_refl _, hM.out, hB.out⟩

theorem wpList_room {ops : Array Oper} {rest : List Oper} {o : Oper} {a : Act} {Q : Exit → Act → World → Prop} (w : World) (hg : o.guard = none) (l c : Operand) (hop : o.op = Op.makeSlice 22 l c)
    (n : Nat) (hl : a.eval l = .int .i64 0) (hc : a.eval c = .int .i64 (n : Int)) (hn : n ≤ 10000000)
    (hK : ∀ w', Built w w' (.slice (some ⟨w.heap.size, 0, none⟩) 0 n) [] → wpList Tryd.prog ops Q rest (a.put o.dst (.slice (some ⟨w.heap.size, 0, none⟩) 0 n)) w') :
    wpList Tryd.prog ops Q (o :: rest) a w := by
  obtain ⟨i0, hi, hz0, hz1, hz2⟩ := info_parts infoI
  refine wpList_make_own w hg l c 22 hop w.heap.size 3 i0 (.int .i64 0) 1 Tryd.underlying22 hi hz0 hz1 .i64 .i64 n n hl hc rfl (by rw [hz2]; omega) (by unfold maxLen; omega) (Nat.le_refl _) ?_
  intro w' hown hgrow
  exact hK w' ⟨hown, (Below.refl _ _).grown hgrow (Nat.le_refl _) (fun k hk => by cases hk)⟩

theorem low_pow {R : Nat} (h0 : R ≠ 0) (h : R < 18446744073709551616) : ∃ k m, R = 2 ^ k * (2 * m + 1) ∧ k < 64 := by
  obtain ⟨m, hm, hk⟩ := Lib.ctzFrom_spec 64 R (by omega) h
  exact ⟨_, m, hm, hk⟩
theorem clear_u64 {R k m : Nat} (h : R < 18446744073709551616) (e : R = 2 ^ k * (2 * m + 1)) : bits .and .u64 (R : Int) (IntKind.u64.wrap ((R : Int) - 1)) = ((2 ^ (k + 1) * m : Nat) : Int) ∧ 2 ^ (k + 1) * m < R := by
  have hp : 0 < 2 ^ k := Nat.two_pow_pos k
  have h0 : 0 < R := by rw [e]; exact Nat.mul_pos hp (by omega)
  have e1 : IntKind.u64.wrap ((R : Int) - 1) = ((R - 1 : Nat) : Int) := by rw [IntKind.wrap_u64]; omega
  have e2 : R &&& (R - 1) = 2 ^ (k + 1) * m := by rw [e]; exact clear_low k m
  refine ⟨by rw [e1, u64_and_nat R (R - 1) h (by omega), e2], ?_⟩
  rw [e, Nat.pow_succ, Nat.mul_assoc, Nat.mul_add]
  omega
theorem tz_R (R k m : Nat) (w : World) (hT : Tab w) (h : R < 18446744073709551616) (e : R = 2 ^ k * (2 * m + 1)) :
    Calls Tryd.prog 39 #[.int .u64 (R : Int)] w fun e w' => e = .returned (.int .i64 (k : Int)) ∧ w' = w := by
  subst e
  exact tz_any k m w hT h
theorem rest_lt (x j : Nat) (h : x < 18446744073709551616) : 2 ^ j * (x / 2 ^ j) < 18446744073709551616 := Nat.lt_of_le_of_lt (Nat.mul_div_le x (2 ^ j)) h

set_option maxHeartbeats 800000 in
theorem list_any (a : Option Addr) (n c : Nat) (A : Nat → Nat) (w : World) (hT : Tab w) (hn : n ≤ 10000) (hA : ∀ j, A j < 18446744073709551616) (ha : Rows' .u64 w a n (fun j => (A j : Int))) :
    Calls Tryd.prog 27 #[.slice a n c] w fun e w' => ∃ v, e = .returned v ∧ Built w w' v (setL n A) := by
  have HA := hidden hA
  have HX := hidden ha
  have HT := hidden hT
  have htl := tally_le n A
  clear hA ha hT
  go_enter Tryd.func27, Tryd.ntmps27
  go_wp2_with fail
  refine (count_any a n c A _ (by omega) HA.out HX.out).mono ?_
  rintro e w1 ⟨rfl, hw1⟩
  rw [hw1]
  clear hw1 w1
  go_wp2_with (at_make; refine wpList_room _ rfl _ _ rfl (tally n A) rfl rfl (by omega) ?_; intro w1 hb1)
  have HB := hidden hb1
  clear hb1
  go_wp2_with fail
  go_loopw [3, 11] (fun v i wr => ∃ k : Nat, k ≤ n ∧ i = .int .i64 (k : Int) ∧ Hid (Built w wr v (setL k A))) (fun _ i _ => n - (intOf i).toNat)
  case atStart => exact ⟨0, by omega, rfl, HB⟩
  case round =>
    clear HB
    obtain ⟨k, hk, rfl, hB⟩ := hrel
    by_cases hkn : k < n
    · obtain ⟨b, off, rfl, hlt, hc⟩ := HX.out (by omega)
      have hcell : wr.cell? ⟨b, off + k, none⟩ = some (.int .u64 (A k : Int)) := (hB.out.below.cell (p := ⟨b, off + k, none⟩) hlt).trans (hc k hkn)
      clear hc
      have hki : (k : Int) < (n : Int) := by omega
      obtain ⟨x, hx⟩ : ∃ x, x = A k := ⟨_, rfl⟩
      have hx64 : x < 18446744073709551616 := by rw [hx]; exact HA.out k
      have hlen : (setL k A).length ≤ 640000 := by rw [setL_length]; have := tally_le k A; omega
      rw [← hx] at hcell
      have HXK := hidden hx
      clear hx
      go_wp2_with fail
      go_loopw [3, 5] (fun v r wi => ∃ (j R : Nat), j ≤ 64 ∧ r = .int .u64 (R : Int) ∧ Hid (R = 2 ^ j * (x / 2 ^ j)) ∧ Hid (Built w wi v (setL k A ++ lis (64 * k) x j))) (fun _ r _ => (intOf r).toNat)
      case atStart => exact ⟨0, x, by omega, rfl, by show x = 2 ^ 0 * (x / 2 ^ 0); simp, by rw [lis_zero, List.append_nil]; exact hB⟩
      case round =>
        clear hB hcell
        obtain ⟨j, R, hj, rfl, hR, hBi⟩ := hrel
        have hRl : R < 18446744073709551616 := by rw [hR.out]; exact rest_lt x j hx64
        by_cases hR0 : R = 0
        · have hdone := lis_done (64 * k) x j hx64 hj (by rw [← hR.out]; exact hR0)
          have HD := hidden hdone
          clear hdone
          subst hR0
          go_wp2_with fail
          go_roundw
          case rel => exact ⟨k + 1, by omega, by go_num, by rw [setL_succ, ← HXK.out, HD.out]; exact hBi⟩
          case measure => simp [intOf]; omega
        · obtain ⟨e, m, hRe, he⟩ := low_pow hR0 hRl
          have hst := lis_step (64 * k) x j e m (hR.out.symm.trans hRe)
          have hclr := clear_u64 hRl hRe
          obtain ⟨R', hR'⟩ : ∃ R', R' = 2 ^ (e + 1) * m := ⟨_, rfl⟩
          rw [← hR'] at hclr
          have hand := hclr.1
          rw [show IntKind.u64.wrap ((R : Int) - 1) = (R : Int) - 1 by rw [IntKind.wrap_u64]; omega] at hand
          have HC : Hid (((64 * k + e : Nat) : Int) = (k : Int) * 64 + (e : Int)) := by show _ = _; omega
          have hless := hclr.2
          have hne : ((R : Int) != 0) = true := by simp; omega
          have hlen2 : (lis (64 * k) x j).length ≤ 64 := by rw [lis_length]; have := cnt_le j x; omega
          have HST := hidden hst
          have HRE := hidden hRe
          have HR' := hidden hR'
          clear hst hclr hRe hR'
          go_wp2_with fail
          refine (tz_R R e m _ (HT.out.below hBi.out.below) hRl HRE.out).mono ?_
          rintro e1 w1 ⟨rfl, hw1⟩
          rw [hw1]
          clear hw1 w1
          go_wp2_with (at_builtin; refine wpList_push rfl (.tmp 24) (.tmp 30) rfl w _ _ _ _ rfl rfl hBi.out (by rw [List.length_append]; omega) ?_; intro v1 w1 hb1)
          have HB1 := hidden hb1
          clear hb1
          go_wp2_with fail
          go_roundw
          case rel => exact ⟨e + 1, R', by omega, rfl, by show R' = _; rw [HR'.out]; exact HST.out.2.2, by rw [HST.out.2.1, ← List.append_assoc, HC.out]; exact HB1⟩
          case measure => simp [intOf]; omega
    · have : k = n := by omega
      subst this
      go_wp2
      go_ret
      exact ⟨_, rfl, hB.out⟩

end Go.Proofs.YtkaaokaiealbmaaDoor
