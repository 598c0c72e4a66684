/- The walk of ScopeBack: behind a block all is seen as it was ahead of it. -/
import Derived.Test.YtncbkedfodaabaaScopePlay
import Derived.Test.YtncbkedfodaabaaGenSame
namespace Go.Proofs.Ytncbkedfodaabaa
open Go.RowKit
set_option linter.unusedVariables false

/-- what is done within leaves all further out as it is, and no kind is struck out -/
theorem step_inner {R : List (List Dc)} {ks : List Nat} {X : List (List Dc)} {K : List Nat} (hX : X ≠ []) (x : Ac) : ∃ X' K', X' ≠ [] ∧ stepS (R.length + 1) (X ++ R, ks ++ K) x = (X' ++ R, ks ++ K') := by
  unfold stepS
  split
  · exact ⟨[] :: X, K, by simp, rfl⟩
  · split
    · split
      · rename_i h
        match X, hX with
        | [b], _ => simp at h
        | b :: c :: X', _ => exact ⟨c :: X', K, by simp, rfl⟩
      · exact ⟨X, K, hX, rfl⟩
    · split
      · match X, hX with
        | b :: X', _ =>
          cases hm : may (b :: X' ++ R) x.nm x.kd with
          | false => exact ⟨b :: X', K, by simp, by rw [declared_no hm]⟩
          | true =>
            refine ⟨(b ++ [⟨x.nm, (ks ++ K).length, x.kd.toNat⟩]) :: X', K ++ [x.kd.toNat], by simp, ?_⟩
            have hm2 : may (b :: (X' ++ R)) x.nm x.kd = true := hm
            show declared (b :: (X' ++ R)) (ks ++ K) x.nm x.kd = _
            rw [declared_yes hm2, List.append_assoc]
            rfl
      · exact ⟨X, K, hX, rfl⟩
theorem play_inner (R : List (List Dc)) (ks : List Nat) (l : List Ac) : ∀ n, ∃ X K, X ≠ [] ∧ playS (R.length + 1) ([] :: R, ks) l n = (X ++ R, ks ++ K)
  | 0 => ⟨[[]], [], by simp, by rw [playS, List.append_nil]; rfl⟩
  | n + 1 => by
    obtain ⟨X, K, hX, h⟩ := play_inner R ks l n
    obtain ⟨X', K', hX', h'⟩ := step_inner (R := R) (ks := ks) (K := K) hX (ac l n)
    exact ⟨X', K', hX', by rw [playS, h, h']⟩
theorem kcs_ints (ks : List Nat) : kcs ks = (ks.map fun (k : Nat) => (k : Int)).map (Value.int .i64) := by unfold kcs; rw [List.map_map]; rfl
/-- the numbers of a list, read -/
def nums (ks : List Nat) (j : Nat) : Int := (ks.map fun (k : Nat) => (k : Int)).getD j 0
theorem own_rows {w : World} {B n : Nat} {v : Value} {ks : List Nat} (h : w.ownsRow B 3 1 v n (kcs ks)) : ∃ a cap, v = .slice a ks.length cap ∧ ks.length ≤ cap ∧ Rows' .i64 w a ks.length (nums ks) := by
  obtain ⟨a', cap', hv', hc⟩ := own_len h
  rw [kcs_ints] at h
  obtain ⟨a, cap, hv, hr⟩ := Rows'.own h
  rw [List.length_map] at hv hr
  refine ⟨a, cap, hv, ?_, hr⟩
  rw [hv] at hv'
  injection hv' with _ e1 e2
  omega
theorem Rows'.less {k : IntKind} {w : World} {a : Option Addr} {n m : Nat} {f : Nat → Int} (h : Rows' k w a n f) (hm : m ≤ n) : Rows' k w a m f := by
  intro hp
  obtain ⟨b, off, ha, hlt, hc⟩ := h (by omega)
  exact ⟨b, off, ha, hlt, fun j hj => hc j (by omega)⟩
theorem nums_app (ks K : List Nat) {j : Nat} (hj : j < ks.length) : nums (ks ++ K) j = nums ks j := by
  unfold nums
  rw [List.map_append, List.getD_eq_getElem?_getD, List.getD_eq_getElem?_getD, List.getElem?_append_left (by simpa using hj)]
theorem closed_app {x : List Dc} {R : List (List Dc)} (hR : R ≠ []) : closed ([x] ++ R) = R := by
  cases R with
  | nil => exact absurd rfl hR
  | cons c R => rfl
/-- how many blocks are open, read in memory -/
def dep (w : World) (p : Nat) : Nat := match w.cell? ⟨p, 1, none⟩ with
  | some (.slice _ n _) => n
  | _ => 0
theorem dep_is {w : World} {p : Nat} {F : Nat → Prop} {R : List (List Dc)} {ks : List Nat} (H : IsS w p F R ks) : dep w p = R.length := by
  obtain ⟨b, n, vB, vK, vs, L⟩ := H
  obtain ⟨a, cap, rfl, _⟩ := own_len L.blocks
  have h : w.cell? ⟨p, 1, none⟩ = some (.slice a R.length cap) := L.box.at_ rfl
  unfold dep
  rw [h]
set_option maxRecDepth 100000 in
set_option maxHeartbeats 8000000 in
theorem back_walk (a0 : Option Addr) (len0 cap0 : Nat) (l0 : List Ac) (a1 : Option Addr) (len1 cap1 : Nat) (l1 : List Ac) (s : ByteArray) (W : World) (h0 : IsActs W a0 len0 cap0 l0) (h1 : IsActs W a1 len1 cap1 l1) (hs : s.size ≤ maxLen) :
    Calls Try.prog 4 #[.slice a0 len0 cap0, .slice a1 len1 cap1, .string s] W fun e W' => e = .returned (.bool true) ∧ Below W.heap.size W W' := by
  obtain ⟨hl0, _, hA0, hS0⟩ := h0
  obtain ⟨hl1, _, hA1, hS1⟩ := h1
  by_cases hg0 : 30 < len0
  · have hg0' : decide ((30 : Int) < (len0 : Int)) = true := by simp; omega
    clear hl0 hl1 hA0 hS0 hA1 hS1 hg0
    go_enter Try.func4, Try.ntmps4
    go_wp2_with (go_at_call 6; refine (works_any W).mono ?_; rintro e w1 ⟨rfl, hb1⟩)
    go_ret
    exact ⟨rfl, hb1⟩
  · have hg0' : decide ((30 : Int) < (len0 : Int)) = false := by simp; omega
    by_cases hg1 : 30 < len1
    · have hg1' : decide ((30 : Int) < (len1 : Int)) = true := by simp; omega
      clear hl0 hl1 hA0 hS0 hA1 hS1 hg1 hg0
      go_enter Try.func4, Try.ntmps4
      go_wp2_with (go_at_call 6; refine (works_any W).mono ?_; rintro e w1 ⟨rfl, hb1⟩)
      go_ret
      exact ⟨rfl, hb1⟩
    · have hg1' : decide ((30 : Int) < (len1 : Int)) = false := by simp; omega
      by_cases hg2 : 40 < s.size
      · have hg2' : decide ((40 : Int) < (s.size : Int)) = true := by simp; omega
        clear hl0 hl1 hA0 hS0 hA1 hS1 hg1 hg0 hg2
        go_enter Try.func4, Try.ntmps4
        go_wp2_with (go_at_call 6; refine (works_any W).mono ?_; rintro e w1 ⟨rfl, hb1⟩)
        go_ret
        exact ⟨rfl, hb1⟩
      · have hg2' : decide ((40 : Int) < (s.size : Int)) = false := by simp; omega
        obtain ⟨B, hB⟩ : ∃ B, B = W.heap.size := ⟨_, rfl⟩
        rw [← hB]
        have HBW := hidden hB
        have HA0 := hidden hA0
        have HS0 := hidden hS0
        have HA1 := hidden hA1
        have HS1 := hidden hS1
        have HL0 := hidden hl0
        have HL1 := hidden hl1
        have hb0 : len0 ≤ 30 := by omega
        have hb1 : len1 ≤ 30 := by omega
        clear hl0 hl1 hA0 hS0 hA1 hS1 hg1 hg0 hg2 hB
        go_enter Try.func4, Try.ntmps4
        go_wp2_with (go_at_call 7; refine (new_any W).mono ?_; rintro e w1 ⟨p, F1, rfl, hS1, hb1, ho1⟩)
        have HI1 := hidden hS1
        have HB1 := hidden hb1
        have HO1 := hidden (show Off W.heap.size F1 from ho1)
        clear hS1 hb1 ho1
        obtain ⟨st1, hst1⟩ : ∃ st, st = playS 1 ([[]], []) l0 l0.length := ⟨_, rfl⟩
        have hp1 : Calls Try.prog 19 #[.pointer (some ⟨p, 0, none⟩), .slice a0 len0 cap0, .int .i64 1] w1 fun e w' => e = .returned (.int .i64 (st1.1.length : Int)) ∧ ∃ F', IsS w' p F' st1.1 st1.2 ∧ Tn F1 w1 w' ∧ Grew F1 F' w1 := by
          have := play_any HI1.out cap0 1 HA0.out HS0.out HB1.out HO1.out (by have := HL0.out; omega) (by simp) (by simp) (by omega)
          rw [← hst1, HL0.out] at this
          exact this
        have hln1 := play_length 1 ([[]], []) l0 l0.length
        rw [← hst1, HL0.out] at hln1
        have hR1 : st1.1.length ≤ 31 := by have := hln1.1; simp at this; omega
        have hK1 : st1.2.length ≤ 30 := by have := hln1.2; simp at this; omega
        clear hln1 hst1
        obtain ⟨R1, k1⟩ := st1
        simp only at hp1 hR1 hK1
        obtain ⟨r, hr⟩ : ∃ r, r = R1.length := ⟨_, rfl⟩
        rw [← hr] at hp1 hR1
        have HRr := hidden hr
        clear hr
        go_wp2_with (go_at_call 19; with_reducible refine hp1.mono ?_; rintro e w2 ⟨rfl, F2, hS2, hT2, hG2⟩)
        clear hp1
        have HI2 := hidden hS2
        have HB2 := hidden (hT2.from HO1.out HB1.out (Nat.le_refl _))
        have HO2 := hidden (HO1.out.grew hG2 HB1.out.size)
        have hne := hS2.some_
        clear hS2 hT2 hG2
        obtain ⟨x, hx⟩ : ∃ x, x = Sees R1 s := ⟨_, rfl⟩
        have hf2 := find_any HI2.out hs
        rw [← hx] at hf2
        obtain ⟨x1, x2, x3⟩ := x
        have HX := hidden hx
        have HNE := hidden hne
        clear hx hne
        go_wp2_with (go_at_call 15; with_reducible refine hf2.mono ?_; rintro e w3 ⟨he, hb3⟩; simp only [told] at he; subst he)
        clear hf2
        have HI3 := hidden (HI2.out.below hb3)
        have HB3 := hidden (HB2.out.trans (hb3.mono HB2.out.size))
        clear hb3
        go_wp2_with (go_at_call 18; with_reducible refine (kinds_any HI3.out (by omega)).mono ?_; rintro e w4 ⟨v4, rfl, hown4, hb4⟩; obtain ⟨aW, cW, rfl, hcW, hrW⟩ := own_rows hown4)
        have HI4 := hidden (HI3.out.below hb4)
        have HB4 := hidden (HB3.out.trans (hb4.mono HB3.out.size))
        have HOW := hidden hown4
        have HF4 := hidden HI3.out.lt
        clear hb4 hown4 hrW
        go_wp2_with (go_at_call 9; with_reducible refine (open_any HI4.out (by have := HRr.out; omega)).mono ?_; rintro e w5 ⟨rfl, F5, hS5, hT5, hG5⟩)
        have HI5 := hidden hS5
        have HT5 := hidden hT5
        have HG5 := hidden hG5
        have HB5 := hidden (hT5.from HO2.out HB4.out (Nat.le_refl _))
        have HO5 := hidden (HO2.out.grew hG5 HB4.out.size)
        clear hS5 hT5 hG5
        obtain ⟨X, K, hX, hXK⟩ := play_inner R1 k1 l1 l1.length
        have hln2 := play_length (R1.length + 1) ([] :: R1, k1) l1 l1.length
        obtain ⟨M, hM⟩ : ∃ M, M = X.length + r := ⟨_, rfl⟩
        have hp5 : Calls Try.prog 19 #[.pointer (some ⟨p, 0, none⟩), .slice a1 len1 cap1, .int .i64 ((r : Int) + 1)] w5 fun e w' => e = .returned (.int .i64 (M : Int)) ∧ ∃ F', IsS w' p F' (X ++ R1) (k1 ++ K) ∧ Tn F5 w5 w' ∧ Grew F5 F' w5 := by
          have := play_any HI5.out cap1 (R1.length + 1) HA1.out HS1.out HB5.out HO5.out (by have := HL1.out; omega) (by have := HRr.out; simp; omega) (by omega) (by have := HRr.out; omega)
          rw [hXK, HL1.out, show ((R1.length + 1 : Nat) : Int) = (r : Int) + 1 by have := HRr.out; omega, show (X ++ R1).length = M by have := HRr.out; simp; omega] at this
          exact this
        rw [hXK, HL1.out] at hln2
        have hXl : X.length ≤ 31 := by have := hln2.1; simp at this; omega
        have hKl : (k1 ++ K).length ≤ 60 := by have := hln2.2; simp at this ⊢; omega
        have hMn : decide ((M : Int) < (r : Int) + 1) = false := by have := List.length_pos_iff.2 hX; simp; omega
        have hMb : M ≤ 62 := by omega
        have HX0 := hidden hX
        have hd5 := depth_any HI5.out
        rw [show ((([] : List Dc) :: R1).length : Int) = (r : Int) + 1 by have := HRr.out; simp; omega] at hd5
        clear hln2 hXK hX hM
        go_wp2_with (first | (go_at_call 16; with_reducible refine hd5.mono ?_; rintro e w6 ⟨rfl, hw6⟩; rw [hw6]; clear hw6 w6) | (go_at_call 19; with_reducible refine hp5.mono ?_; rintro e w6 ⟨rfl, F6, hS6, hT6, hG6⟩))
        have HI6 := hidden hS6
        have HT6 := hidden (HT5.out.trans hT6 HG5.out)
        have HG6 := hidden (HG5.out.trans hG6 HT5.out.size)
        clear hS6 hT6 hG6 hp5 hd5
        go_loopw [52] (fun _ wr => ∃ (X' : List (List Dc)) (F' : Nat → Prop), X'.length ≤ 31 ∧ Hid (X' ≠ []) ∧ Hid (IsS wr p F' (X' ++ R1) (k1 ++ K)) ∧ Hid (Tn F2 w4 wr) ∧ Hid (Grew F2 F' w4)) (fun _ wr => dep wr p)
        case atStart => exact ⟨X, F6, hXl, HX0, HI6, HT6, HG6⟩
        case round =>
          obtain ⟨X', F', hXl', HX', HI', HT', HG'⟩ := hrel
          match X', HX', hXl', HI' with
          | [], HX', _, _ => exact absurd rfl HX'.out
          | x' :: y' :: Z, HX', hXl', HI' =>
            have hdd := depth_any HI'.out
            obtain ⟨D, hD⟩ : ∃ D, D = Z.length + r := ⟨_, rfl⟩
            rw [show ((x' :: y' :: Z ++ R1).length : Int) = (D : Int) + 2 by have := HRr.out; simp; omega] at hdd
            have hDg : (r : Int) + 1 < (D : Int) + 2 := by omega
            have hDb : D ≤ 62 := by simp at hXl'; omega
            have hcc := close_any HI'.out (by have := HRr.out; simp at hXl' ⊢; omega) (by omega)
            rw [show decide (1 < (x' :: y' :: Z ++ R1).length) = true by simp] at hcc
            have HD := hidden hD
            have HM1 := hidden (show dep wr p = (x' :: y' :: Z ++ R1).length from dep_is HI'.out)
            clear hD
            go_wp2_with (first | (go_at_call 16; with_reducible refine hdd.mono ?_; rintro e w7 ⟨rfl, hw7⟩; rw [hw7]; clear hw7 w7) | (go_at_call 11; with_reducible refine hcc.mono ?_; rintro e w7 ⟨rfl, F7, hS7, hT7, hG7⟩))
            go_roundw
            case rel => exact ⟨y' :: Z, F7, by simp at hXl' ⊢; omega, hidden (by simp), hidden hS7, hidden (HT'.out.trans hT7 HG'.out), hidden (HG'.out.trans hG7 HT'.out.size)⟩
            case measure =>
              rw [HM1.out, dep_is hS7]
              show (y' :: (Z ++ R1)).length < _
              simp
          | [x'], HX', _, HI' =>
            have hdd := depth_any HI'.out
            rw [show (([x'] ++ R1).length : Int) = (r : Int) + 1 by have := HRr.out; simp; omega] at hdd
            have hRn : R1 ≠ [] := HNE.out
            have hcc := close_any HI'.out (by have := HRr.out; simp; omega) (by omega)
            rw [show decide (1 < ([x'] ++ R1).length) = true by have := List.length_pos_iff.2 hRn; simp; omega, closed_app hRn] at hcc
            clear hRn
            go_wp2_with (first | (go_at_call 16; with_reducible refine hdd.mono ?_; rintro e w7 ⟨rfl, hw7⟩; rw [hw7]; clear hw7 w7) | (go_at_call 11; with_reducible refine hcc.mono ?_; rintro e w7 ⟨rfl, F7, hS7, hT7, hG7⟩))
            have HI7 := hidden hS7
            have HT7 := hidden (HT'.out.trans hT7 HG'.out)
            have HB7 := hidden (HT7.out.from HO2.out HB4.out (Nat.le_refl _))
            have HW7 := hidden (own_same HOW.out (w' := w7) fun k hk => HT7.out.block k (HOW.out.lt k hk).2 (fun h1 => by have h2 := HF4.out k h1; have h3 := (HOW.out.lt k hk).1; omega))
            clear hS7 hT7 hG7 hcc hdd
            have hd7 := depth_any HI7.out
            rw [← HRr.out] at hd7
            have hf7 := find_any HI7.out hs
            rw [← HX.out] at hf7
            go_wp2_with (first | (go_at_call 16; with_reducible refine hd7.mono ?_; rintro e w8 ⟨rfl, hw8⟩; rw [hw8]; clear hw8 w8) | (go_at_call 15; with_reducible refine hf7.mono ?_; rintro e w8 ⟨he, hb8⟩; simp only [told] at he; subst he))
            clear hd7 hf7
            have HI8 := hidden (HI7.out.below hb8)
            have HB8 := hidden (HB7.out.trans (hb8.mono HB7.out.size))
            have HW8 := hidden (own_below HW7.out hb8)
            clear hb8
            obtain ⟨N, hN⟩ : ∃ N, N = (k1 ++ K).length := ⟨_, rfl⟩
            have HN := hidden hN
            have hcN : k1.length ≤ N := by rw [hN]; simp
            have hNb : N ≤ 60 := by omega
            clear hN
            go_wp2_with (go_at_call 18; with_reducible refine (kinds_any HI8.out (by have := HN.out; omega)).mono ?_; rintro e w9 ⟨v9, rfl, hown9, hb9⟩; obtain ⟨aN, cN, rfl, hcN2, hrN⟩ := own_rows hown9; rw [← HN.out] at hcN2 hrN ⊢; have hge : decide ((k1.length : Int) ≤ (N : Int)) = true := by simp; omega)
            have HI9 := hidden (HI8.out.below hb9)
            have HB9 := hidden (HB8.out.trans (hb9.mono HB8.out.size))
            obtain ⟨aW', cW', hvW, _, hrW⟩ := own_rows (own_below HW8.out hb9)
            injection hvW with e1 e2 e3
            subst e1 e3
            have hsm : Calls Try.prog 17 #[.slice aN k1.length cN, .slice aW k1.length cW] w9 fun e w' => e = .returned (.bool true) ∧ ∃ q, w' = w9.drewN q := by
              have h1 : Rows' .i64 w9 aN k1.length (nums k1) := (hrN.less hcN).congr fun j hj => nums_app k1 K hj
              have := sameInts_any aN aW k1.length k1.length cN cW (nums k1) (nums k1) w9 (by omega) (by omega) h1 hrW
              rw [allEq_true (fun _ _ => rfl)] at this
              simpa using this
            clear hrN hrW hown9 hb9 e2
            go_wp2_with (first | (go_at_call 17; with_reducible refine hsm.mono ?_; rintro e w10 ⟨rfl, q10, hw10⟩) | (go_at_call 6; with_reducible refine (works_any _).mono ?_; rintro e w11 ⟨rfl, hb11⟩))
            go_ret
            rw [HBW.out]
            have HB10 : Below W.heap.size W (w9.drewN q10) := HB9.out.trans (below_drewN _ _ _)
            exact ⟨rfl, HB10.trans (hb11.mono HB10.size)⟩
end Go.Proofs.Ytncbkedfodaabaa
