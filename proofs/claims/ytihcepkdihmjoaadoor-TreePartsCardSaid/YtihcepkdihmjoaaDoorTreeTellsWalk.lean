/- The walk through TreeTells. -/
import Derived.Test.YtihcepkdihmjoaaDoorTreeTell
import Derived.BigQuiet
namespace Go.Proofs.YtihcepkdihmjoaaDoor
open Go.RowKit
set_option linter.unusedVariables false

theorem tell_lit (a : Option Addr) (c n : Nat) (l : List Nd) (w : World) (z : Int) (i : Nat) (hn : n = l.length) (hR : Rt l) (hN : Nodes w a l) (hll : n ≤ 100000) (hi : i < l.length) (hz : z = (i : Int)) :
    Calls Tryd.prog 15 #[.slice a n c, .int .i64 z] w fun e w' => e = .returned (txt (tx l i)) ∧ Below w.heap.size w w' := by
  subst hz
  exact tell_any a c n l hn hR hll (i + 1) i (by omega) hi w hN
theorem right_len (a : Option Addr) (c n : Nat) (l : List Nd) (w : World) (hn : n = l.length) (hTb : Tabs w) (hN : Nodes w a l) (hll : n ≤ 1000000000) :
    Calls Tryd.prog 11 #[.slice a n c] w (Tells (Rt l) w) := by
  subst hn
  exact right_any a c l w hTb hN hll
theorem heights_len (a : Option Addr) (c n : Nat) (l : List Nd) (w : World) (hn : n = l.length) (hTb : Tabs w) (hN : Nodes w a l) (hll : n ≤ 1000000000) :
    Calls Tryd.prog 9 #[.slice a n c] w (Measured l (Rt l) w) := by
  subst hn
  exact heights_any a c l w hTb hN hll
set_option maxRecDepth 100000 in
set_option maxHeartbeats 8000000 in
theorem tells_walk (a : Option Addr) (len cap : Nat) (l : List Nd) (w : World) (hTb : Tabs w) (hI : IsNodes w a len cap l) :
    Calls Tryd.prog 3 #[.slice a len cap] w fun e w' => e = .returned (.bool true) ∧ Below w.heap.size w w' := by
  obtain ⟨hl, _, hm, hN⟩ := hI
  have HNL : Hid (len = l.length) := hl.symm
  have HN := hidden hN
  have HTB := hidden hTb
  have hmx : len ≤ 9223372036854775807 := by unfold maxLen at hm; omega
  clear hl hN hTb hm
  go_enter Tryd.func3, Tryd.ntmps3
  go_wp2_with fail
  refine (few_any a cap len l w HNL.out HN.out hmx).mono ?_
  rintro e w1 ⟨b, rfl, hfew, hw1⟩
  rw [hw1]; clear hw1 w1
  have HF := hidden hfew
  clear hfew
  cases b with
  | false =>
    go_wp2_with fail
    refine (works_any w HTB.out).mono ?_
    rintro e w1 ⟨rfl, hb⟩
    have HB := hidden hb
    clear hb
    go_wp2_with fail
    go_ret
    exact ⟨rfl, HB.out⟩
  | true =>
    have hll : len ≤ 60 := by rw [HNL.out]; exact (HF.out rfl).1
    go_wp2_with fail
    refine (heights_len a cap len l w HNL.out HTB.out HN.out (by omega)).mono ?_
    rintro e w1 ⟨hb1, hcase⟩
    have HB1 := hidden hb1
    clear hb1
    rcases hcase with ⟨hR, g, he, hrows⟩ | ⟨hR, he⟩
    · rw [← HNL.out] at he hrows
      subst he
      have HR := hidden hR
      have HRW := hidden hrows
      have hpos : 0 < len := by rw [HNL.out]; exact hR.1.1
      clear hR hrows
      go_wp2_with fail
      refine (rright_any a cap len l w1 HNL.out (HN.out.below HB1.out) (by omega)).mono ?_
      rintro e w2 ⟨b, rfl, hiff, hb2⟩
      obtain rfl : b = true := hiff.2 HR.out
      have HB2 : Hid (Below w.heap.size w w2) := HB1.out.trans (hb2.mono HB1.out.size)
      have HRW2 := hidden (HRW.out.below hb2)
      clear hiff hb2
      go_wp2_with fail
      refine (right_len a cap len l w2 HNL.out (HTB.out.below HB2.out) (HN.out.below HB2.out) (by omega)).mono ?_
      rintro e w3 ⟨b, rfl, hiff, hb3⟩
      obtain rfl : b = true := hiff.2 HR.out
      have HB3 : Hid (Below w.heap.size w w3) := HB2.out.trans (hb3.mono HB2.out.size)
      have HRW3 := hidden (HRW2.out.below hb3)
      clear hiff hb3
      go_wp2_with fail
      refine (whole_any a cap len l w3 HNL.out (HTB.out.below HB3.out) (HN.out.below HB3.out) (by omega)).mono ?_
      rintro e w4 ⟨b4, rfl, hiff4, hb4⟩
      have HB4 : Hid (Below w.heap.size w w4) := HB3.out.trans (hb4.mono HB3.out.size)
      have HRW4 := hidden (HRW3.out.below hb4)
      have HI4 := hidden hiff4
      clear hiff4 hb4
      go_wp2_with fail
      refine (rwhole_any a cap len l w4 HNL.out (HN.out.below HB4.out) (by omega)).mono ?_
      rintro e w5 ⟨b5, rfl, hiff5, hb5⟩
      obtain rfl : b5 = b4 := by
        have := HI4.out
        cases b4 <;> cases b5 <;> simp_all
      have HB5 : Hid (Below w.heap.size w w5) := HB4.out.trans (hb5.mono HB4.out.size)
      have HRW5 := hidden (HRW4.out.below hb5)
      clear hiff5 hb5
      have hbb : (b5 != b5) = false := by cases b5 <;> rfl
      go_wp2_with fail
      refine (text_any a cap len l w5 HNL.out (HTB.out.below HB5.out) (HN.out.below HB5.out) (by omega)).mono ?_
      rintro e w6 ⟨hb6, hc6⟩
      have HE6 : Hid (e = .returned (txt (tx l (len - 1)))) := by
        rcases hc6 with ⟨_, h⟩ | ⟨h, _⟩
        · rw [HNL.out]; exact h
        · exact absurd HR.out h
      have he6 := HE6.out
      subst he6
      have HB6 : Hid (Below w.heap.size w w6) := HB5.out.trans (hb6.mono HB5.out.size)
      have HRW6 := hidden (HRW5.out.below hb6)
      clear hc6 hb6 HE6
      unfold txt
      go_wp2_with fail
      refine (tell_lit a cap len l w6 _ (len - 1) HNL.out HR.out (HN.out.below HB6.out) (by omega) (by rw [← HNL.out]; omega) (by omega)).mono ?_
      rintro e w7 ⟨rfl, hb7⟩
      have HB7 : Hid (Below w.heap.size w w7) := HB6.out.trans (hb7.mono HB6.out.size)
      have HRW7 := hidden (HRW6.out.below hb7)
      clear hb7
      obtain ⟨Y, hY⟩ : ∃ Y, Y = tx l (len - 1) := ⟨_, rfl⟩
      rw [← hY]
      clear hY
      unfold txt
      go_wp2_with fail
      go_loopw [4] (fun t4 wr => ∃ i : Nat, i ≤ len ∧ t4 = .int .i64 (i : Int) ∧ Hid (Below w.heap.size w wr) ∧ Hid (Rows' .i64 wr (some ⟨g, 0, none⟩) len (fun j => (hgt l j : Int)))) (fun t4 _ => len - (intOf t4).toNat)
      case atStart => exact ⟨0, by omega, rfl, HB7, HRW7⟩
      case round =>
        obtain ⟨i, hi, rfl, HBr, HRr⟩ := hrel
        by_cases hil : i < len
        · have hili : (i : Int) < (len : Int) := by omega
          obtain ⟨gb, go, hge, hgb, hgc⟩ := HRr.out (by omega)
          injection hge with hge
          injection hge with e1 e2
          subst e1 e2
          have hc := hgc i hil
          simp only [Nat.zero_add] at hc
          have HHT := hidden (fun q : Nat => height_any a cap len l (wr.drewN q) HNL.out HR.out.1.2.1 ((HN.out.below HBr.out).drewN q) (by omega) (i + 1) i (by omega) (by rw [← HNL.out]; exact hil))
          obtain ⟨G, hG⟩ : ∃ G, G = hgt l i := ⟨_, rfl⟩
          rw [← hG] at hc HHT
          clear hG hgc
          go_wp2_with fail
          go_quiet (first | (go_at_call 16; refine Calls.quiet_of_same (HHT.out _)))
          go_wp2_with fail
          go_roundw
          case rel =>
            exact ⟨i + 1, by omega, by go_num, HBr.out.trans (below_drewN _ _ _), HRr.out.drewN _⟩
          case measure => simp [intOf]; omega
        · go_wp2_with fail
          refine (works_any wr (HTB.out.below HBr.out)).mono ?_
          rintro e w8 ⟨rfl, hb8⟩
          have HB8 : Hid (Below w.heap.size w w8) := HBr.out.trans (hb8.mono HBr.out.size)
          clear hb8
          go_wp2_with fail
          go_ret
          exact ⟨rfl, HB8.out⟩
    · subst he
      have HR := hidden hR
      clear hR
      go_wp2_with fail
      refine (rright_any a cap len l w1 HNL.out (HN.out.below HB1.out) (by omega)).mono ?_
      rintro e w2 ⟨b, rfl, hiff, hb2⟩
      obtain rfl : b = false := by
        cases b with
        | false => rfl
        | true => exact absurd (hiff.1 rfl) HR.out
      have HB2 : Hid (Below w.heap.size w w2) := HB1.out.trans (hb2.mono HB1.out.size)
      clear hiff hb2
      go_wp2_with fail
      refine (right_len a cap len l w2 HNL.out (HTB.out.below HB2.out) (HN.out.below HB2.out) (by omega)).mono ?_
      rintro e w3 ⟨b, rfl, hiff, hb3⟩
      obtain rfl : b = false := by
        cases b with
        | false => rfl
        | true => exact absurd (hiff.1 rfl) HR.out
      have HB3 : Hid (Below w.heap.size w w3) := HB2.out.trans (hb3.mono HB2.out.size)
      clear hiff hb3
      go_wp2_with fail
      refine (whole_any a cap len l w3 HNL.out (HTB.out.below HB3.out) (HN.out.below HB3.out) (by omega)).mono ?_
      rintro e w4 ⟨b, rfl, hiff, hb4⟩
      obtain rfl : b = false := by
        cases b with
        | false => rfl
        | true => exact absurd (hiff.1 rfl).1 HR.out
      have HB4 : Hid (Below w.heap.size w w4) := HB3.out.trans (hb4.mono HB3.out.size)
      clear hiff hb4
      go_wp2_with fail
      refine (text_any a cap len l w4 HNL.out (HTB.out.below HB4.out) (HN.out.below HB4.out) (by omega)).mono ?_
      rintro e w5 ⟨hb5, hc5⟩
      have he5 : e = .returned (txt []) := by
        rcases hc5 with ⟨h, _⟩ | ⟨_, h⟩
        · exact absurd h HR.out
        · exact h
      subst he5
      have HB5 : Hid (Below w.heap.size w w5) := HB4.out.trans (hb5.mono HB4.out.size)
      clear hc5 hb5
      unfold txt
      go_wp2_with fail
      refine (works_any w5 (HTB.out.below HB5.out)).mono ?_
      rintro e w6 ⟨rfl, hb6⟩
      have HB6 : Hid (Below w.heap.size w w6) := HB5.out.trans (hb6.mono HB5.out.size)
      clear hb6
      go_wp2_with fail
      go_ret
      exact ⟨rfl, HB6.out⟩
end Go.Proofs.YtihcepkdihmjoaaDoor
