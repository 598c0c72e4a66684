/- The walk through the reference's one. -/
import Derived.Test.YtagacfcpepoaoaaGreatDoorMRefLex
import Derived.Test.YtagacfcpepoaoaaGreatDoorMMem
namespace Go.Proofs.YtagacfcpepoaoaaGreatDoor
open Go.RowKit
set_option linter.unusedVariables false

/-- what the reference's one tells of the token that begins with r, at q -/
def OneTold (r : List UInt8) (q : Nat) (e : Ending) : Prop :=
  (er r = 0 ∧ e = .returned (.tuple #[.agg (tkv (tk r q)).toArray, .int .i64 0])) ∨ (er r ≠ 0 ∧ e = .returned (.tuple #[.agg #[.int .i64 0, .string ⟨#[]⟩, .int .i64 0, .int .i64 0], .int .i64 (er r : Int)]))
theorem one_ok {r : List UInt8} {q : Nat} {e : Ending} (k : Nat) (X : ByteArray) (n : Nat) (he : er r = 0) (hk : kdOf (k0 r) (r.take (ln r)) = k) (hX : X = ⟨(r.take (ln r)).toArray⟩) (hn : nmOf (k0 r) (r.take (ln r)) = n) (h : e = .returned (.tuple #[.agg #[.int .i64 (k : Int), .string X, .int .i64 (n : Int), .int .i64 (q : Int)], .int .i64 0])) : OneTold r q e := by
  subst hk hX hn h
  exact .inl ⟨he, rfl⟩
theorem one_bad {r : List UInt8} {q : Nat} {e : Ending} (x : Nat) (he : er r = x) (hx : x ≠ 0) (h : e = .returned (.tuple #[.agg #[.int .i64 0, .string ⟨#[]⟩, .int .i64 0, .int .i64 0], .int .i64 (x : Int)])) : OneTold r q e := by
  subst he h
  exact .inr ⟨hx, rfl⟩
/-- the block that is told -/
structure Hold (w V : World) (A : Nat) : Prop where
  out : Held V A 49 #[.int .i64 0, .string ⟨#[]⟩, .int .i64 0, .int .i64 0]
  bel : Below w.heap.size w V
  low : w.heap.size ≤ A
theorem Hold.tell {w V : World} {A : Nat} (h : Hold w V A) (k : Int) (S : ByteArray) (n p : Int) :
    ∃ W', W' = ((((V.setCell ⟨A, 0, none⟩ (.int .i64 k)).setCell ⟨A, 1, none⟩ (.string S)).setCell ⟨A, 2, none⟩ (.int .i64 n)).setCell ⟨A, 3, none⟩ (.int .i64 p)) ∧ Held W' A 49 #[.int .i64 k, .string S, .int .i64 n, .int .i64 p] ∧ Below w.heap.size w W' :=
  ⟨_, rfl, (((h.out.set 0 _).set 1 _).set 2 _).set 3 _, (((h.bel.setCell h.low _).setCell h.low _).setCell h.low _).setCell h.low _⟩
theorem Hold.then_ {w V V' : World} {A : Nat} (h : Hold w V A) (hb : Below V.heap.size V V') : Hold w V' A := ⟨h.out.since hb, h.bel.trans (hb.mono h.bel.size), h.low⟩
theorem ne_cons {l : List UInt8} (h : 0 < l.length) : ∃ c cs, l = c :: cs := by
  cases l with
  | nil => simp at h
  | cons c cs => exact ⟨c, cs, rfl⟩
theorem dg_lt {n : Nat} (h : isDg n = true) : isLt n = false := by
  unfold isDg at h
  unfold isLt
  simp only [Bool.and_eq_true, decide_eq_true_eq] at h
  rw [decide_eq_false (by omega : ¬ 97 ≤ n), decide_eq_false (by omega : ¬ 65 ≤ n), show (n == 95) = false from beq_eq_false_iff_ne.2 (by omega)]
  rfl
theorem ln_dg {l : List UInt8} (h : 0 < l.length) (hd : isDg (bt l 0) = true) : k0 l = 2 ∧ ln l = rn isDg l := by
  obtain ⟨c, cs, rfl⟩ := ne_cons h
  have hd' : isDg c.toNat = true := hd
  have hl := dg_lt hd'
  constructor
  · show (if isLt c.toNat then 1 else if isDg c.toNat then 2 else 4) = 2
    rw [hl, hd']; rfl
  · show (if isLt c.toNat then _ else if isDg c.toNat then _ else _) = _
    rw [hl, hd']; rfl
theorem ln_lt {l : List UInt8} (h : 0 < l.length) (hd : isLt (bt l 0) = true) : k0 l = 1 ∧ ln l = rn isWb l := by
  obtain ⟨c, cs, rfl⟩ := ne_cons h
  have hd' : isLt c.toNat = true := hd
  constructor
  · show (if isLt c.toNat then 1 else if isDg c.toNat then 2 else 4) = 1
    rw [hd']; rfl
  · show (if isLt c.toNat then _ else if isDg c.toNat then _ else _) = _
    rw [hd']; rfl
theorem ln_sg {l : List UInt8} (h : 0 < l.length) (hd : isDg (bt l 0) = false) (hl : isLt (bt l 0) = false) : k0 l = 4 ∧ ln l = sgn (bt l 0) (bt l 1) := by
  obtain ⟨c, cs, rfl⟩ := ne_cons h
  have hd' : isDg c.toNat = false := hd
  have hl' : isLt c.toNat = false := hl
  constructor
  · show (if isLt c.toNat then 1 else if isDg c.toNat then 2 else 4) = 4
    rw [hl', hd']; rfl
  · show (if isLt c.toNat then _ else if isDg c.toNat then _ else sgn c.toNat (bt cs 0)) = _
    rw [hl', hd']; rfl
theorem rn_all (p : Nat → Bool) : ∀ (l : List UInt8) (k : Nat), k < rn p l → p (bt l k) = true
  | [], k, h => by simp [rn] at h
  | c :: cs, k, h => by
    unfold rn at h
    split at h
    · rename_i g
      cases k with
      | zero => exact g
      | succ k => exact rn_all p cs k (by omega)
    · omega
theorem ext_take {s : ByteArray} {l : List UInt8} (hl : l = s.data.toList) (m : Nat) : s.extract 0 m = ⟨(l.take m).toArray⟩ := by
  apply ByteArray.ext
  apply Array.toList_inj.1
  rw [extract_take, ← hl]
set_option maxRecDepth 100000 in
set_option maxHeartbeats 4000000 in
theorem rone_any (s : ByteArray) (q : Nat) (w : World) (hs : s.size ≤ 1000000) (h0 : 0 < s.size) :
    Calls Tryz.prog 48 #[.string s, .int .i64 (q : Int)] w fun e w' => OneTold s.data.toList q e ∧ Below w.heap.size w w' := by
  obtain ⟨l, hl⟩ : ∃ l, l = s.data.toList := ⟨_, rfl⟩
  have hlen : l.length = s.size := by rw [hl]; exact Array.length_toList
  have HLEN := hidden hlen
  rw [← hl]
  have HL := hidden hl
  have HL0 : Hid (0 < l.length) := by show 0 < l.length; rw [hlen]; exact h0
  have HB0 := hidden (bt_of hl h0)
  clear hl hlen
  have h0i : (0 : Int) < (s.size : Int) := by omega
  go_enter Tryz.func48, Tryz.ntmps48
  go_wp2_with fail
  obtain ⟨W, hW⟩ : ∃ W, W = w.alloc (.cells #[.int .i64 0, .string ⟨#[]⟩, .int .i64 0, .int .i64 0] 49) := ⟨_, rfl⟩
  rw [← hW]
  obtain ⟨A, hA⟩ : ∃ A, A = w.heap.size := ⟨_, rfl⟩
  have HD : Hid (Hold w W A) := by rw [hW, hA]; exact ⟨Held.new _ _ _, (Below.refl _ _).alloc (Nat.le_refl _) _, Nat.le_refl _⟩
  rw [← hA]
  clear hW hA
  have a0 : W.cell? ⟨A, 0, none⟩ = some (.int .i64 0) := HD.out.out.at_ rfl
  have a1 : W.cell? ⟨A, 1, none⟩ = some (.string ⟨#[]⟩) := HD.out.out.at_ rfl
  have a2 : W.cell? ⟨A, 2, none⟩ = some (.int .i64 0) := HD.out.out.at_ rfl
  have a3 : W.cell? ⟨A, 3, none⟩ = some (.int .i64 0) := HD.out.out.at_ rfl
  have z0 := HD.out.out.frozen 0
  have z1 := HD.out.out.frozen 1
  have z2 := HD.out.out.frozen 2
  have z3 := HD.out.out.frozen 3
  refine (rdigit_any s[0].toNat W).mono ?_
  rintro e w1 ⟨rfl, hw1⟩
  rw [hw1, ← HB0.out]; clear hw1 w1
  cases hdig : tDg (bt l 0) with
  | true =>
    have HDG : Hid (k0 l = 2 ∧ ln l = rn isDg l) := ln_dg HL0.out hdig
    have HPOS : Hid (0 < rn isDg l) := by
      show 0 < rn isDg l
      have := rn_hit (p := isDg) HL0.out hdig
      rw [List.drop_zero] at this
      omega
    clear hdig
    obtain ⟨m, hm⟩ : ∃ m, m = rn isDg l := ⟨_, rfl⟩
    have hml : m ≤ s.size := by rw [hm, ← HLEN.out]; exact rn_le _ _
    have HM := hidden hm
    clear hm
    go_wp2_with fail
    go_loop [6] (fun i => ∃ k : Nat, k ≤ s.size ∧ i = .int .i64 (k : Int) ∧ Hid (m = k + rn isDg (l.drop k))) (fun i => s.size - (intOf i).toNat)
    case atStart => exact ⟨0, Nat.zero_le _, rfl, (show m = 0 + rn isDg (l.drop 0) by rw [HM.out, List.drop_zero]; omega)⟩
    case round =>
      obtain ⟨k, hk, rfl, hK⟩ := hrel
      by_cases hlt : k < s.size
      · have hb := hidden (bt_of HL.out hlt)
        have hkl : Hid (k < l.length) := by show k < l.length; rw [HLEN.out]; exact hlt
        go_wp2_with fail
        refine (rdigit_any s[k].toNat W).mono ?_
        rintro e w1 ⟨rfl, hw1⟩
        rw [hw1, ← hb.out]; clear hw1 w1
        cases hp : tDg (bt l k) with
        | true =>
          have HP : Hid (isDg (bt l k) = true) := hp
          clear hp
          go_wp2_with fail
          go_round
          case rel => exact ⟨k + 1, by omega, by go_num, (show m = k + 1 + rn isDg (l.drop (k + 1)) by rw [hK.out, rn_hit hkl.out HP.out]; omega)⟩
          case measure => simp [intOf]; omega
        | false =>
          have HP : Hid (isDg (bt l k) = false) := hp
          clear hp
          have hkm : k = m := by rw [hK.out, rn_miss hkl.out HP.out]; rfl
          clear hb hkl HP hlt hk hK
          subst hkm
          have hmi : (k : Int) ≤ (s.size : Int) := by omega
          go_wp2_with fail
          refine (rnumber_any (s.extract 0 k) W (by rw [size_extract s k (by omega)]; omega) (fun j hj => by
            rw [extract_take, ← HL.out] at hj ⊢
            rw [List.length_take] at hj
            rw [bt_take (by omega)]
            exact rn_all isDg l j (by rw [← HM.out]; omega))).mono ?_
          rintro e w1 ⟨rfl, hw1⟩
          rw [hw1, extract_take, ← HL.out]; clear hw1 w1
          have HE : Hid (l.take (ln l) = l.take k) := by show l.take (ln l) = l.take k; rw [HDG.out.2, ← HM.out]
          have HK0 := hidden HDG.out.1
          have HLN : Hid (¬ ln l = 0) := by
            show ¬ ln l = 0
            rw [HDG.out.2]
            intro e
            have h1 := rn_le isDg l
            exact absurd e (by have := HPOS.out; omega)
          cases hnum : num (l.take k) with
          | none =>
            have H7 : Hid (er l = 7) := by
              show er l = 7
              unfold er erOf
              rw [if_neg HLN.out, if_pos HK0.out, HE.out, hnum]
              rfl
            unfold numV
            rw [hnum]
            clear hnum
            go_wp2_with fail
            obtain ⟨W', hW', hH, hBel⟩ := HD.out.tell 0 (⟨#[]⟩) 0 0
            rw [← hW']
            have c0 : W'.cell? ⟨A, 0, none⟩ = some (.int .i64 0) := hH.at_ rfl
            have c1 : W'.cell? ⟨A, 1, none⟩ = some (.string (⟨#[]⟩)) := hH.at_ rfl
            have c2 : W'.cell? ⟨A, 2, none⟩ = some (.int .i64 0) := hH.at_ rfl
            have c3 : W'.cell? ⟨A, 3, none⟩ = some (.int .i64 0) := hH.at_ rfl
            clear hW' hH
            exact bodyPost_ret (v := .tuple #[.agg #[.int .i64 0, .string (⟨#[]⟩), .int .i64 0, .int .i64 0], .int .i64 7]) (by simp [results, Tryz.results48, go_sem, c0, c1, c2, c3]) rfl ⟨one_bad 7 H7.out (by decide) rfl, hBel⟩
          | some n =>
            have HER : Hid (er l = 0) := by
              show er l = 0
              unfold er erOf
              rw [if_neg HLN.out, if_pos HK0.out, HE.out, hnum]
              rfl
            have HNM : Hid (nmOf (k0 l) (l.take (ln l)) = n) := by
              show nmOf (k0 l) (l.take (ln l)) = n
              unfold nmOf
              rw [if_pos HK0.out, HE.out, hnum]
              rfl
            unfold numV
            rw [hnum]
            clear hnum
            go_wp2_with fail
            obtain ⟨W', hW', hH, hBel⟩ := HD.out.tell 2 (s.extract 0 k) (n : Int) (q : Int)
            rw [← hW']
            have c0 : W'.cell? ⟨A, 0, none⟩ = some (.int .i64 2) := hH.at_ rfl
            have c1 : W'.cell? ⟨A, 1, none⟩ = some (.string (s.extract 0 k)) := hH.at_ rfl
            have c2 : W'.cell? ⟨A, 2, none⟩ = some (.int .i64 (n : Int)) := hH.at_ rfl
            have c3 : W'.cell? ⟨A, 3, none⟩ = some (.int .i64 (q : Int)) := hH.at_ rfl
            clear hW' hH
            exact bodyPost_ret (v := .tuple #[.agg #[.int .i64 2, .string (s.extract 0 k), .int .i64 (n : Int), .int .i64 (q : Int)], .int .i64 0]) (by simp [results, Tryz.results48, go_sem, c0, c1, c2, c3]) rfl ⟨one_ok 2 _ n HER.out (by unfold kdOf; rw [HK0.out]; rfl) (by rw [HE.out]; exact ext_take HL.out k) HNM.out rfl, hBel⟩
      · have hkm : k = m := by rw [hK.out, rn_end (by rw [HLEN.out]; omega)]; rfl
        clear hK
        subst hkm
        have hmi : (k : Int) ≤ (s.size : Int) := by omega
        go_wp2_with fail
        refine (rnumber_any (s.extract 0 k) W (by rw [size_extract s k (by omega)]; omega) (fun j hj => by
          rw [extract_take, ← HL.out] at hj ⊢
          rw [List.length_take] at hj
          rw [bt_take (by omega)]
          exact rn_all isDg l j (by rw [← HM.out]; omega))).mono ?_
        rintro e w1 ⟨rfl, hw1⟩
        rw [hw1, extract_take, ← HL.out]; clear hw1 w1
        have HE : Hid (l.take (ln l) = l.take k) := by show l.take (ln l) = l.take k; rw [HDG.out.2, ← HM.out]
        have HK0 := hidden HDG.out.1
        have HLN : Hid (¬ ln l = 0) := by
          show ¬ ln l = 0
          rw [HDG.out.2]
          intro e
          have h1 := rn_le isDg l
          exact absurd e (by have := HPOS.out; omega)
        cases hnum : num (l.take k) with
        | none =>
          have H7 : Hid (er l = 7) := by
            show er l = 7
            unfold er erOf
            rw [if_neg HLN.out, if_pos HK0.out, HE.out, hnum]
            rfl
          unfold numV
          rw [hnum]
          clear hnum
          go_wp2_with fail
          obtain ⟨W', hW', hH, hBel⟩ := HD.out.tell 0 (⟨#[]⟩) 0 0
          rw [← hW']
          have c0 : W'.cell? ⟨A, 0, none⟩ = some (.int .i64 0) := hH.at_ rfl
          have c1 : W'.cell? ⟨A, 1, none⟩ = some (.string (⟨#[]⟩)) := hH.at_ rfl
          have c2 : W'.cell? ⟨A, 2, none⟩ = some (.int .i64 0) := hH.at_ rfl
          have c3 : W'.cell? ⟨A, 3, none⟩ = some (.int .i64 0) := hH.at_ rfl
          clear hW' hH
          exact bodyPost_ret (v := .tuple #[.agg #[.int .i64 0, .string (⟨#[]⟩), .int .i64 0, .int .i64 0], .int .i64 7]) (by simp [results, Tryz.results48, go_sem, c0, c1, c2, c3]) rfl ⟨one_bad 7 H7.out (by decide) rfl, hBel⟩
        | some n =>
          have HER : Hid (er l = 0) := by
            show er l = 0
            unfold er erOf
            rw [if_neg HLN.out, if_pos HK0.out, HE.out, hnum]
            rfl
          have HNM : Hid (nmOf (k0 l) (l.take (ln l)) = n) := by
            show nmOf (k0 l) (l.take (ln l)) = n
            unfold nmOf
            rw [if_pos HK0.out, HE.out, hnum]
            rfl
          unfold numV
          rw [hnum]
          clear hnum
          go_wp2_with fail
          obtain ⟨W', hW', hH, hBel⟩ := HD.out.tell 2 (s.extract 0 k) (n : Int) (q : Int)
          rw [← hW']
          have c0 : W'.cell? ⟨A, 0, none⟩ = some (.int .i64 2) := hH.at_ rfl
          have c1 : W'.cell? ⟨A, 1, none⟩ = some (.string (s.extract 0 k)) := hH.at_ rfl
          have c2 : W'.cell? ⟨A, 2, none⟩ = some (.int .i64 (n : Int)) := hH.at_ rfl
          have c3 : W'.cell? ⟨A, 3, none⟩ = some (.int .i64 (q : Int)) := hH.at_ rfl
          clear hW' hH
          exact bodyPost_ret (v := .tuple #[.agg #[.int .i64 2, .string (s.extract 0 k), .int .i64 (n : Int), .int .i64 (q : Int)], .int .i64 0]) (by simp [results, Tryz.results48, go_sem, c0, c1, c2, c3]) rfl ⟨one_ok 2 _ n HER.out (by unfold kdOf; rw [HK0.out]; rfl) (by rw [HE.out]; exact ext_take HL.out k) HNM.out rfl, hBel⟩
  | false =>
    have HDG : Hid (isDg (bt l 0) = false) := hdig
    clear hdig
    obtain ⟨m, hm⟩ : ∃ m, m = if isLt (bt l 0) = true then rn isWb l else 0 := ⟨_, rfl⟩
    have HM := hidden hm
    clear hm
    go_wp2_with fail
    go_loop [6] (fun i => ∃ k : Nat, k ≤ s.size ∧ i = .int .i64 (k : Int) ∧ Hid (0 < k → isLt (bt l 0) = true ∧ m = k + rn isWb (l.drop k))) (fun i => s.size - (intOf i).toNat)
    case atStart => exact ⟨0, Nat.zero_le _, rfl, fun h => by omega⟩
    case round =>
      obtain ⟨k, hk, rfl, hK⟩ := hrel
      by_cases hlt : k < s.size
      · have hb := hidden (bt_of HL.out hlt)
        have hkl : Hid (k < l.length) := by show k < l.length; rw [HLEN.out]; exact hlt
        by_cases hk0 : k = 0
        · subst hk0
          go_wp2_with fail
          refine (rletter_any s[0].toNat W).mono ?_
          rintro e w1 ⟨rfl, hw1⟩
          rw [hw1, ← hb.out]; clear hw1 w1
          cases hp : tLt (bt l 0) with
          | true =>
            have HP := hidden hp
            clear hp
            go_wp2_with fail
            go_round
            case rel => exact ⟨1, by omega, rfl, fun _ => by
              have e : isLt (bt l 0) = true := HP.out
              refine ⟨e, ?_⟩
              rw [HM.out, if_pos e]
              have := rn_hit (p := isWb) hkl.out (by unfold isWb; rw [e]; rfl)
              rw [List.drop_zero] at this
              rw [this]⟩
            case measure => simp [intOf]; omega
          | false =>
            have HLT : Hid (isLt (bt l 0) = false) := hp
            clear hp hb hkl
            have HSG : Hid (k0 l = 4 ∧ ln l = sgn (bt l 0) (bt l 1)) := ln_sg HL0.out HDG.out HLT.out
            clear HDG HLT
            obtain ⟨z, hz⟩ : ∃ z, z = sgn (bt l 0) (bt l 1) := ⟨_, rfl⟩
            have hzs : z ≤ s.size := by rw [hz, ← HSG.out.2, ← HLEN.out]; exact ln_le l
            have HZ : Hid (ln l = z) := by show ln l = z; rw [hz]; exact HSG.out.2
            clear a0 a1 a2 a3 z0 z1 z2 z3
            go_wp2_with fail
            refine (rsign_any s W (by omega) h0).mono ?_
            rintro e w1 ⟨rfl, hb1⟩
            rw [← HL.out, ← hz]
            clear hz
            have HD1 := hidden (HD.out.then_ hb1)
            clear hb1 HD
            have a0 : w1.cell? ⟨A, 0, none⟩ = some (.int .i64 0) := HD1.out.out.at_ rfl
            have a1 : w1.cell? ⟨A, 1, none⟩ = some (.string ⟨#[]⟩) := HD1.out.out.at_ rfl
            have a2 : w1.cell? ⟨A, 2, none⟩ = some (.int .i64 0) := HD1.out.out.at_ rfl
            have a3 : w1.cell? ⟨A, 3, none⟩ = some (.int .i64 0) := HD1.out.out.at_ rfl
            have z0 := HD1.out.out.frozen 0
            have z1 := HD1.out.out.frozen 1
            have z2 := HD1.out.out.frozen 2
            have z3 := HD1.out.out.frozen 3
            by_cases hz0 : z = 0
            · have hz1 : ((z : Int) == 0) = true := by rw [hz0]; rfl
              have H6 : Hid (er l = 6) := by
                show er l = 6
                unfold er erOf
                exact if_pos (HZ.out.trans hz0)
              clear hz0
              go_wp2_with fail
              obtain ⟨W', hW', hH, hBel⟩ := HD1.out.tell 0 (⟨#[]⟩) 0 0
              rw [← hW']
              have c0 : W'.cell? ⟨A, 0, none⟩ = some (.int .i64 0) := hH.at_ rfl
              have c1 : W'.cell? ⟨A, 1, none⟩ = some (.string (⟨#[]⟩)) := hH.at_ rfl
              have c2 : W'.cell? ⟨A, 2, none⟩ = some (.int .i64 0) := hH.at_ rfl
              have c3 : W'.cell? ⟨A, 3, none⟩ = some (.int .i64 0) := hH.at_ rfl
              clear hW' hH
              exact bodyPost_ret (v := .tuple #[.agg #[.int .i64 0, .string (⟨#[]⟩), .int .i64 0, .int .i64 0], .int .i64 6]) (by simp [results, Tryz.results48, go_sem, c0, c1, c2, c3]) rfl ⟨one_bad 6 H6.out (by decide) rfl, hBel⟩
            · have hz1 : ((z : Int) == 0) = false := by simp; omega
              have HER : Hid (er l = 0) := by
                show er l = 0
                unfold er erOf
                rw [if_neg (by rw [HZ.out]; exact hz0), HSG.out.1, if_neg (by decide), if_neg (fun h => by cases h.1), if_neg (fun h => by cases h.1)]
              clear hz0
              go_wp2_with fail
              obtain ⟨W', hW', hH, hBel⟩ := HD1.out.tell 4 (s.extract 0 z) 0 (q : Int)
              rw [← hW']
              have c0 : W'.cell? ⟨A, 0, none⟩ = some (.int .i64 4) := hH.at_ rfl
              have c1 : W'.cell? ⟨A, 1, none⟩ = some (.string (s.extract 0 z)) := hH.at_ rfl
              have c2 : W'.cell? ⟨A, 2, none⟩ = some (.int .i64 0) := hH.at_ rfl
              have c3 : W'.cell? ⟨A, 3, none⟩ = some (.int .i64 (q : Int)) := hH.at_ rfl
              clear hW' hH
              exact bodyPost_ret (v := .tuple #[.agg #[.int .i64 4, .string (s.extract 0 z), .int .i64 0, .int .i64 (q : Int)], .int .i64 0]) (by simp [results, Tryz.results48, go_sem, c0, c1, c2, c3]) rfl ⟨one_ok 4 _ 0 HER.out (by unfold kdOf; rw [HSG.out.1]; rfl) (by rw [HZ.out]; exact ext_take HL.out z) (by unfold nmOf; rw [HSG.out.1]; rfl) rfl, hBel⟩
        · have hk1 : (0 : Int) < (k : Int) := by omega
          have hkk := hK.out (by omega)
          have HLT := hidden hkk.1
          have HKK := hidden hkk.2
          clear hkk hK
          go_wp2_with fail
          refine (rletter_any s[k].toNat W).mono ?_
          rintro e w1 ⟨rfl, hw1⟩
          rw [hw1, ← hb.out]; clear hw1 w1
          cases hp : tLt (bt l k) with
          | true =>
            have HP : Hid (isLt (bt l k) = true) := hp
            clear hp
            go_wp2_with fail
            go_round
            case rel => exact ⟨k + 1, by omega, by go_num, fun _ => ⟨HLT.out, by rw [HKK.out, rn_hit hkl.out (by unfold isWb; rw [HP.out]; rfl)]; omega⟩⟩
            case measure => simp [intOf]; omega
          | false =>
            have HP : Hid (isLt (bt l k) = false) := hp
            clear hp
            go_wp2_with fail
            refine (rdigit_any s[k].toNat W).mono ?_
            rintro e w1 ⟨rfl, hw1⟩
            rw [hw1, ← hb.out]; clear hw1 w1
            cases hp2 : tDg (bt l k) with
            | true =>
              have HP2 : Hid (isDg (bt l k) = true) := hp2
              clear hp2
              go_wp2_with fail
              go_round
              case rel => exact ⟨k + 1, by omega, by go_num, fun _ => ⟨HLT.out, by rw [HKK.out, rn_hit hkl.out (by unfold isWb; rw [HP.out, HP2.out]; rfl)]; omega⟩⟩
              case measure => simp [intOf]; omega
            | false =>
              have HP2 : Hid (isDg (bt l k) = false) := hp2
              clear hp2
              have hkm : k = m := by rw [HKK.out, rn_miss hkl.out (by unfold isWb; rw [HP.out, HP2.out]; rfl)]; rfl
              clear hb hkl HP HP2 hlt HKK hk0
              subst hkm
              have hmi : (k : Int) ≤ (s.size : Int) := by omega
              have HWD := hidden (ln_lt HL0.out HLT.out)
              have HE : Hid (l.take (ln l) = l.take k) := by show l.take (ln l) = l.take k; rw [HWD.out.2, HM.out, if_pos HLT.out]
              have HLN : Hid (ln l = k) := by show ln l = k; rw [HWD.out.2, HM.out, if_pos HLT.out]
              have hk0 : 0 < k := by omega
              clear a0 a1 a2 a3 z0 z1 z2 z3 HLT
              go_wp2_with fail
              refine (rword_any (s.extract 0 k) W).mono ?_
              rintro e w1 ⟨rfl, hb1⟩
              rw [extract_take, ← HL.out]
              have HD1 := hidden (HD.out.then_ hb1)
              clear hb1 HD
              have a0 : w1.cell? ⟨A, 0, none⟩ = some (.int .i64 0) := HD1.out.out.at_ rfl
              have a1 : w1.cell? ⟨A, 1, none⟩ = some (.string ⟨#[]⟩) := HD1.out.out.at_ rfl
              have a2 : w1.cell? ⟨A, 2, none⟩ = some (.int .i64 0) := HD1.out.out.at_ rfl
              have a3 : w1.cell? ⟨A, 3, none⟩ = some (.int .i64 0) := HD1.out.out.at_ rfl
              have z0 := HD1.out.out.frozen 0
              have z1 := HD1.out.out.frozen 1
              have z2 := HD1.out.out.frozen 2
              have z3 := HD1.out.out.frozen 3
              cases hkey : tKey (l.take k) with
              | true =>
                have HKEY : Hid (isKey (l.take k) = true) := hkey
                clear hkey
                have HER : Hid (er l = 0) := by
                  show er l = 0
                  unfold er erOf
                  rw [if_neg (by rw [HLN.out]; omega), HWD.out.1, if_neg (by decide), HE.out, if_pos ⟨rfl, HKEY.out⟩]
                go_wp2_with fail
                obtain ⟨W', hW', hH, hBel⟩ := HD1.out.tell 3 (s.extract 0 k) 0 (q : Int)
                rw [← hW']
                have c0 : W'.cell? ⟨A, 0, none⟩ = some (.int .i64 3) := hH.at_ rfl
                have c1 : W'.cell? ⟨A, 1, none⟩ = some (.string (s.extract 0 k)) := hH.at_ rfl
                have c2 : W'.cell? ⟨A, 2, none⟩ = some (.int .i64 0) := hH.at_ rfl
                have c3 : W'.cell? ⟨A, 3, none⟩ = some (.int .i64 (q : Int)) := hH.at_ rfl
                clear hW' hH
                exact bodyPost_ret (v := .tuple #[.agg #[.int .i64 3, .string (s.extract 0 k), .int .i64 0, .int .i64 (q : Int)], .int .i64 0]) (by simp [results, Tryz.results48, go_sem, c0, c1, c2, c3]) rfl ⟨one_ok 3 _ 0 HER.out (by unfold kdOf; rw [HWD.out.1, HE.out]; exact if_pos ⟨rfl, HKEY.out⟩) (by rw [HE.out]; exact ext_take HL.out k) (by unfold nmOf; rw [HWD.out.1]; rfl) rfl, hBel⟩
              | false =>
                have HKEY : Hid (isKey (l.take k) = false) := hkey
                clear hkey
                by_cases hlong : 32 < k
                · have hl' : (32 : Int) < (k : Int) := by omega
                  have H3 : Hid (er l = 3) := by
                    show er l = 3
                    unfold er erOf
                    rw [if_neg (by rw [HLN.out]; omega), HWD.out.1, if_neg (by decide), HE.out, if_neg (fun h => by rw [HKEY.out] at h; exact absurd h.2 (by decide)), if_pos ⟨rfl, by rw [HLN.out]; exact hlong⟩]
                  go_wp2_with fail
                  obtain ⟨W', hW', hH, hBel⟩ := HD1.out.tell 0 (⟨#[]⟩) 0 0
                  rw [← hW']
                  have c0 : W'.cell? ⟨A, 0, none⟩ = some (.int .i64 0) := hH.at_ rfl
                  have c1 : W'.cell? ⟨A, 1, none⟩ = some (.string (⟨#[]⟩)) := hH.at_ rfl
                  have c2 : W'.cell? ⟨A, 2, none⟩ = some (.int .i64 0) := hH.at_ rfl
                  have c3 : W'.cell? ⟨A, 3, none⟩ = some (.int .i64 0) := hH.at_ rfl
                  clear hW' hH
                  exact bodyPost_ret (v := .tuple #[.agg #[.int .i64 0, .string (⟨#[]⟩), .int .i64 0, .int .i64 0], .int .i64 3]) (by simp [results, Tryz.results48, go_sem, c0, c1, c2, c3]) rfl ⟨one_bad 3 H3.out (by decide) rfl, hBel⟩
                · have hl' : ¬ (32 : Int) < (k : Int) := by omega
                  have HER : Hid (er l = 0) := by
                    show er l = 0
                    unfold er erOf
                    rw [if_neg (by rw [HLN.out]; omega), HWD.out.1, if_neg (by decide), HE.out, if_neg (fun h => by rw [HKEY.out] at h; exact absurd h.2 (by decide)), if_neg (fun h => by have := h.2; rw [HLN.out] at this; exact hlong this)]
                  go_wp2_with fail
                  obtain ⟨W', hW', hH, hBel⟩ := HD1.out.tell 1 (s.extract 0 k) 0 (q : Int)
                  rw [← hW']
                  have c0 : W'.cell? ⟨A, 0, none⟩ = some (.int .i64 1) := hH.at_ rfl
                  have c1 : W'.cell? ⟨A, 1, none⟩ = some (.string (s.extract 0 k)) := hH.at_ rfl
                  have c2 : W'.cell? ⟨A, 2, none⟩ = some (.int .i64 0) := hH.at_ rfl
                  have c3 : W'.cell? ⟨A, 3, none⟩ = some (.int .i64 (q : Int)) := hH.at_ rfl
                  clear hW' hH
                  exact bodyPost_ret (v := .tuple #[.agg #[.int .i64 1, .string (s.extract 0 k), .int .i64 0, .int .i64 (q : Int)], .int .i64 0]) (by simp [results, Tryz.results48, go_sem, c0, c1, c2, c3]) rfl ⟨one_ok 1 _ 0 HER.out (by unfold kdOf; rw [HWD.out.1, HE.out]; exact if_neg (fun h => by rw [HKEY.out] at h; exact absurd h.2 (by decide))) (by rw [HE.out]; exact ext_take HL.out k) (by unfold nmOf; rw [HWD.out.1]; rfl) rfl, hBel⟩
      · have hkk := hK.out (by omega)
        have hkm : k = m := by rw [hkk.2, rn_end (by rw [HLEN.out]; omega)]; rfl
        have HLT := hidden hkk.1
        have hk1 : (0 : Int) < (k : Int) := by omega
        clear hkk hK
        subst hkm
        have hmi : (k : Int) ≤ (s.size : Int) := by omega
        have HWD := hidden (ln_lt HL0.out HLT.out)
        have HE : Hid (l.take (ln l) = l.take k) := by show l.take (ln l) = l.take k; rw [HWD.out.2, HM.out, if_pos HLT.out]
        have HLN : Hid (ln l = k) := by show ln l = k; rw [HWD.out.2, HM.out, if_pos HLT.out]
        have hk0 : 0 < k := by omega
        clear a0 a1 a2 a3 z0 z1 z2 z3 HLT
        go_wp2_with fail
        refine (rword_any (s.extract 0 k) W).mono ?_
        rintro e w1 ⟨rfl, hb1⟩
        rw [extract_take, ← HL.out]
        have HD1 := hidden (HD.out.then_ hb1)
        clear hb1 HD
        have a0 : w1.cell? ⟨A, 0, none⟩ = some (.int .i64 0) := HD1.out.out.at_ rfl
        have a1 : w1.cell? ⟨A, 1, none⟩ = some (.string ⟨#[]⟩) := HD1.out.out.at_ rfl
        have a2 : w1.cell? ⟨A, 2, none⟩ = some (.int .i64 0) := HD1.out.out.at_ rfl
        have a3 : w1.cell? ⟨A, 3, none⟩ = some (.int .i64 0) := HD1.out.out.at_ rfl
        have z0 := HD1.out.out.frozen 0
        have z1 := HD1.out.out.frozen 1
        have z2 := HD1.out.out.frozen 2
        have z3 := HD1.out.out.frozen 3
        cases hkey : tKey (l.take k) with
        | true =>
          have HKEY : Hid (isKey (l.take k) = true) := hkey
          clear hkey
          have HER : Hid (er l = 0) := by
            show er l = 0
            unfold er erOf
            rw [if_neg (by rw [HLN.out]; omega), HWD.out.1, if_neg (by decide), HE.out, if_pos ⟨rfl, HKEY.out⟩]
          go_wp2_with fail
          obtain ⟨W', hW', hH, hBel⟩ := HD1.out.tell 3 (s.extract 0 k) 0 (q : Int)
          rw [← hW']
          have c0 : W'.cell? ⟨A, 0, none⟩ = some (.int .i64 3) := hH.at_ rfl
          have c1 : W'.cell? ⟨A, 1, none⟩ = some (.string (s.extract 0 k)) := hH.at_ rfl
          have c2 : W'.cell? ⟨A, 2, none⟩ = some (.int .i64 0) := hH.at_ rfl
          have c3 : W'.cell? ⟨A, 3, none⟩ = some (.int .i64 (q : Int)) := hH.at_ rfl
          clear hW' hH
          exact bodyPost_ret (v := .tuple #[.agg #[.int .i64 3, .string (s.extract 0 k), .int .i64 0, .int .i64 (q : Int)], .int .i64 0]) (by simp [results, Tryz.results48, go_sem, c0, c1, c2, c3]) rfl ⟨one_ok 3 _ 0 HER.out (by unfold kdOf; rw [HWD.out.1, HE.out]; exact if_pos ⟨rfl, HKEY.out⟩) (by rw [HE.out]; exact ext_take HL.out k) (by unfold nmOf; rw [HWD.out.1]; rfl) rfl, hBel⟩
        | false =>
          have HKEY : Hid (isKey (l.take k) = false) := hkey
          clear hkey
          by_cases hlong : 32 < k
          · have hl' : (32 : Int) < (k : Int) := by omega
            have H3 : Hid (er l = 3) := by
              show er l = 3
              unfold er erOf
              rw [if_neg (by rw [HLN.out]; omega), HWD.out.1, if_neg (by decide), HE.out, if_neg (fun h => by rw [HKEY.out] at h; exact absurd h.2 (by decide)), if_pos ⟨rfl, by rw [HLN.out]; exact hlong⟩]
            go_wp2_with fail
            obtain ⟨W', hW', hH, hBel⟩ := HD1.out.tell 0 (⟨#[]⟩) 0 0
            rw [← hW']
            have c0 : W'.cell? ⟨A, 0, none⟩ = some (.int .i64 0) := hH.at_ rfl
            have c1 : W'.cell? ⟨A, 1, none⟩ = some (.string (⟨#[]⟩)) := hH.at_ rfl
            have c2 : W'.cell? ⟨A, 2, none⟩ = some (.int .i64 0) := hH.at_ rfl
            have c3 : W'.cell? ⟨A, 3, none⟩ = some (.int .i64 0) := hH.at_ rfl
            clear hW' hH
            exact bodyPost_ret (v := .tuple #[.agg #[.int .i64 0, .string (⟨#[]⟩), .int .i64 0, .int .i64 0], .int .i64 3]) (by simp [results, Tryz.results48, go_sem, c0, c1, c2, c3]) rfl ⟨one_bad 3 H3.out (by decide) rfl, hBel⟩
          · have hl' : ¬ (32 : Int) < (k : Int) := by omega
            have HER : Hid (er l = 0) := by
              show er l = 0
              unfold er erOf
              rw [if_neg (by rw [HLN.out]; omega), HWD.out.1, if_neg (by decide), HE.out, if_neg (fun h => by rw [HKEY.out] at h; exact absurd h.2 (by decide)), if_neg (fun h => by have := h.2; rw [HLN.out] at this; exact hlong this)]
            go_wp2_with fail
            obtain ⟨W', hW', hH, hBel⟩ := HD1.out.tell 1 (s.extract 0 k) 0 (q : Int)
            rw [← hW']
            have c0 : W'.cell? ⟨A, 0, none⟩ = some (.int .i64 1) := hH.at_ rfl
            have c1 : W'.cell? ⟨A, 1, none⟩ = some (.string (s.extract 0 k)) := hH.at_ rfl
            have c2 : W'.cell? ⟨A, 2, none⟩ = some (.int .i64 0) := hH.at_ rfl
            have c3 : W'.cell? ⟨A, 3, none⟩ = some (.int .i64 (q : Int)) := hH.at_ rfl
            clear hW' hH
            exact bodyPost_ret (v := .tuple #[.agg #[.int .i64 1, .string (s.extract 0 k), .int .i64 0, .int .i64 (q : Int)], .int .i64 0]) (by simp [results, Tryz.results48, go_sem, c0, c1, c2, c3]) rfl ⟨one_ok 1 _ 0 HER.out (by unfold kdOf; rw [HWD.out.1, HE.out]; exact if_neg (fun h => by rw [HKEY.out] at h; exact absurd h.2 (by decide))) (by rw [HE.out]; exact ext_take HL.out k) (by unfold nmOf; rw [HWD.out.1]; rfl) rfl, hBel⟩
end Go.Proofs.YtagacfcpepoaoaaGreatDoor
