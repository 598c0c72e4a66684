/- The walk through token. -/
import Derived.Test.YtjmhmoigheomdaaDoorLexMeasure
import Derived.Test.YtjmhmoigheomdaaDoorGenBytes
import Derived.Test.YtjmhmoigheomdaaDoorGenVeil
namespace Go.Proofs.YtjmhmoigheomdaaDoor
open Go.RowKit
set_option linter.unusedVariables false

/-- a token's four cells -/
def four (k : Nat) (S : ByteArray) (n p : Nat) : Array Value := #[.int .i64 (k : Int), .string S, .int .i64 (n : Int), .int .i64 (p : Int)]
def tkv (t : Tk) : Array Value := four t.kind ⟨t.text.toArray⟩ t.n t.place
/-- what token tells of the token that begins with r, at q -/
def TokTold (r : List UInt8) (q : Nat) (e : Ending) : Prop :=
  (er r = 0 ∧ e = .returned (.tuple #[.agg (tkv (tk r q)), .int .i64 0])) ∨ (er r ≠ 0 ∧ e = .returned (.tuple #[.agg (four 0 ⟨#[]⟩ 0 0), .int .i64 (er r : Int)]))
/-- the two blocks of token: what is told, and what is made -/
structure Duo (w V : World) (A B k : Nat) (S : ByteArray) (n p : Nat) : Prop where
  out : Held V A 30 (four 0 ⟨#[]⟩ 0 0)
  own : Held V B 30 (four k S n p)
  bel : Below w.heap.size w V
  lowA : w.heap.size ≤ A
  lowB : w.heap.size ≤ B
  ne : A ≠ B
theorem Duo.tell {w V : World} {A B k : Nat} {S : ByteArray} {n p : Nat} (h : Duo w V A B k S n p) (k' : Nat) (S' : ByteArray) (n' p' : Nat) :
    ∃ W', W' = ((((V.setCell ⟨A, 0, none⟩ (.int .i64 (k' : Int))).setCell ⟨A, 1, none⟩ (.string S')).setCell ⟨A, 2, none⟩ (.int .i64 (n' : Int))).setCell ⟨A, 3, none⟩ (.int .i64 (p' : Int))) ∧ Held W' A 30 (four k' S' n' p') ∧ Below w.heap.size w W' :=
  ⟨_, rfl, (((h.out.set 0 _).set 1 _).set 2 _).set 3 _, (((h.bel.setCell h.lowA _).setCell h.lowA _).setCell h.lowA _).setCell h.lowA _⟩
theorem Duo.num {w V : World} {A B k : Nat} {S : ByteArray} {n p : Nat} (h : Duo w V A B k S n p) (m : Nat) : Duo w (V.setCell ⟨B, 2, none⟩ (.int .i64 (m : Int))) A B k S m p :=
  ⟨h.out.off h.ne _ _, h.own.set 2 _, h.bel.setCell h.lowB _, h.lowA, h.lowB, h.ne⟩
theorem Duo.kind {w V : World} {A B k : Nat} {S : ByteArray} {n p : Nat} (h : Duo w V A B k S n p) (m : Nat) : Duo w (V.setCell ⟨B, 0, none⟩ (.int .i64 (m : Int))) A B m S n p :=
  ⟨h.out.off h.ne _ _, h.own.set 0 _, h.bel.setCell h.lowB _, h.lowA, h.lowB, h.ne⟩
theorem told_ok {r : List UInt8} {q : Nat} {e : Ending} (k : Nat) (S : ByteArray) (n : Nat) (he : er r = 0) (hk : kdOf (k0 r) (r.take (ln r)) = k) (hS : S = ⟨(r.take (ln r)).toArray⟩) (hn : nmOf (k0 r) (r.take (ln r)) = n) (h : e = .returned (.tuple #[.agg (four k S n q), .int .i64 0])) : TokTold r q e := by
  subst hk hS hn h
  exact .inl ⟨he, rfl⟩
theorem told_bad {r : List UInt8} {q : Nat} {e : Ending} (x : Nat) (he : er r = x) (hx : x ≠ 0) (h : e = .returned (.tuple #[.agg (four 0 ⟨#[]⟩ 0 0), .int .i64 (x : Int)])) : TokTold r q e := by
  subst he h
  exact .inr ⟨hx, rfl⟩
theorem word_S (S : ByteArray) (b : List UInt8) (hb : S = ⟨b.toArray⟩) (w : World) (hT : Tab w) :
    Calls Tryd.prog 8 #[.string S] w fun e w' => e = .returned (.bool (isKey b)) ∧ w' = w := by
  subst hb
  exact word_any b w hT
theorem number_S (S : ByteArray) (b : List UInt8) (hb : S = ⟨b.toArray⟩) (w : World) (hs : S.size ≤ 1000000000) :
    Calls Tryd.prog 13 #[.string S] w fun e w' => e = .returned (numV b) ∧ w' = w := by
  subst hb
  exact number_any _ w hs
theorem k0_cases (r : List UInt8) : k0 r = 1 ∨ k0 r = 2 ∨ k0 r = 4 := by
  cases r with
  | nil => exact .inr (.inr rfl)
  | cons c cs =>
    show (if isLt c.toNat then 1 else if isDg c.toNat then 2 else 4) = 1 ∨ _ ∨ _
    repeat' split
    all_goals simp [k0, *]
set_option maxRecDepth 100000 in
set_option maxHeartbeats 4000000 in
theorem token_any (s : ByteArray) (q : Nat) (w : World) (hT : Tab w) (hs : s.size ≤ 1000000) (hq : q < s.size) :
    Calls Tryd.prog 10 #[.string s, .int .i64 (q : Int)] w fun e w' => TokTold (s.data.toList.drop q) q e ∧ Below w.heap.size w w' := by
  obtain ⟨r, hr⟩ : ∃ r, r = s.data.toList.drop q := ⟨_, rfl⟩
  have hln : q + ln r ≤ s.size := by
    have := ln_le r
    rw [hr, List.length_drop, length_of] at this
    rw [hr]
    omega
  obtain ⟨E, hE⟩ : ∃ E, E = q + ln r := ⟨_, rfl⟩
  rw [← hE] at hln
  have hqE : q ≤ E := by omega
  obtain ⟨k, hk⟩ : ∃ k, k = k0 r := ⟨_, rfl⟩
  have hk3 : k = 1 ∨ k = 2 ∨ k = 4 := by rw [hk]; exact k0_cases r
  obtain ⟨S, hS⟩ : ∃ S, S = s.extract q E := ⟨_, rfl⟩
  have hSs : S.size = E - q := by rw [hS, ByteArray.size_extract]; omega
  have hSb : S = ⟨(r.take (ln r)).toArray⟩ := by
    rw [hS, extract_cut]
    unfold cut
    rw [hE, List.drop_take, hr, show q + ln (s.data.toList.drop q) - q = ln (s.data.toList.drop q) by omega]
  rw [← hr]
  have HR := hidden hr
  have HE := hidden hE
  have HK := hidden hk
  have HK3 := hidden hk3
  have HS := hidden hS
  have HSS := hidden hSs
  have HSB := hidden hSb
  have HT := hidden hT
  clear hr hE hk hS hSs hSb hT hk3
  go_enter Tryd.func10, Tryd.ntmps10
  rw [veil 2, veil 3, veil 14]
  go_wp2_with fail
  obtain ⟨W, hW⟩ : ∃ W, W = w.alloc (.cells #[.int .i64 0, .string ⟨#[]⟩, .int .i64 0, .int .i64 0] 30) := ⟨_, rfl⟩
  rw [← hW]
  have HW := hidden hW
  clear hW
  refine (measure_any s q W (by omega) hq).mono ?_
  rintro e w1 ⟨rfl, hw1⟩
  rw [hw1, ← HR.out, ← HE.out, ← HK.out]; clear hw1 w1
  go_wp2_with fail
  refine wp_veil ?_
  obtain ⟨cap, C, fr, hconv, hback⟩ := bytes_there W (s.extract q E) (E - q) (by rw [ByteArray.size_extract]; omega)
  go_wp2_with fail
  refine wp_veil ?_
  clear hconv hback
  rw [← HS.out]
  obtain ⟨V, hV⟩ : ∃ V, V = ((W.alloc (.cells C 5 fr)).alloc (.cells #[.int .i64 (k : Int), .string S, .int .i64 0, .int .i64 (q : Int)] 30)).drew := ⟨_, rfl⟩
  obtain ⟨B, hB⟩ : ∃ B, B = W.heap.size + 1 := ⟨_, rfl⟩
  obtain ⟨A, hA⟩ : ∃ A, A = w.heap.size := ⟨_, rfl⟩
  have HD : Hid (Duo w V A B k S 0 q) := by
    have hWs : W.heap.size = w.heap.size + 1 := by rw [HW.out]; exact Array.size_push _
    refine ⟨?_, ?_, ?_, by omega, by omega, by omega⟩
    · rw [hV, hA, HW.out]
      exact (((Held.new _ _ _).alloc _).alloc _).drew
    · rw [hV, hB]
      have := Held.new (W.alloc (.cells C 5 fr)) 30 (four k S 0 q)
      rw [show (W.alloc (.cells C 5 fr)).heap.size = W.heap.size + 1 from Array.size_push _] at this
      exact this.drew
    · rw [hV, HW.out]
      have h1 := (Below.refl w.heap.size w).alloc (Nat.le_refl _) (.cells #[.int .i64 0, .string ⟨#[]⟩, .int .i64 0, .int .i64 0] 30)
      have h2 := h1.alloc h1.size (.cells C 5 fr)
      have h3 := h2.alloc h2.size (.cells #[.int .i64 (k : Int), .string S, .int .i64 0, .int .i64 (q : Int)] 30)
      exact h3.trans (below_drewN _ 1 _)
  rw [← hV, ← hB, ← hA]
  have HTV : Hid (Tab V) := HT.out.below (HD.out.bel)
  clear hV hB hA HW HT
  have a0 : V.cell? ⟨A, 0, none⟩ = some (.int .i64 ((0 : Nat) : Int)) := HD.out.out.at_ rfl
  have a1 : V.cell? ⟨A, 1, none⟩ = some (.string ⟨#[]⟩) := HD.out.out.at_ rfl
  have a2 : V.cell? ⟨A, 2, none⟩ = some (.int .i64 ((0 : Nat) : Int)) := HD.out.out.at_ rfl
  have a3 : V.cell? ⟨A, 3, none⟩ = some (.int .i64 ((0 : Nat) : Int)) := HD.out.out.at_ rfl
  have z0 := HD.out.out.frozen 0
  have z1 := HD.out.out.frozen 1
  have z2 := HD.out.out.frozen 2
  have z3 := HD.out.out.frozen 3
  by_cases h0 : E = q
  · -- no token begins
    have e0 : ((E : Int) == (q : Int)) = true := by rw [h0]; simp
    have H6 : Hid (er r = 6) := by
      show er r = 6
      unfold er erOf
      exact if_pos (by have := HE.out; omega)
    clear h0
    go_wp2_with fail
    obtain ⟨W', hW', hH, hBel⟩ := HD.out.tell 0 ⟨#[]⟩ 0 0
    simp only [Int.natCast_zero] at hW'
    rw [← hW']
    have c0 : W'.cell? ⟨A, 0, none⟩ = some (.int .i64 ((0 : Nat) : Int)) := hH.at_ rfl
    have c1 : W'.cell? ⟨A, 1, none⟩ = some (.string ⟨#[]⟩) := hH.at_ rfl
    have c2 : W'.cell? ⟨A, 2, none⟩ = some (.int .i64 ((0 : Nat) : Int)) := hH.at_ rfl
    have c3 : W'.cell? ⟨A, 3, none⟩ = some (.int .i64 ((0 : Nat) : Int)) := hH.at_ rfl
    clear hW' hH
    exact bodyPost_ret (v := .tuple #[.agg (four 0 ⟨#[]⟩ 0 0), .int .i64 6]) (by simp [results, Tryd.results10, go_sem, c0, c1, c2, c3]; rfl) rfl ⟨told_bad 6 H6.out (by decide) rfl, hBel⟩
  · have e0 : ((E : Int) == (q : Int)) = false := by simp; omega
    have HL0 : Hid (¬ ln r = 0) := by show ¬ ln r = 0; have := HE.out; omega
    clear h0
    have b1 : V.cell? ⟨B, 1, none⟩ = some (.string S) := HD.out.own.at_ rfl
    have y0 : V.cell? ⟨B, 0, none⟩ = some (.int .i64 (k : Int)) := HD.out.own.at_ rfl
    have y2 : V.cell? ⟨B, 2, none⟩ = some (.int .i64 ((0 : Nat) : Int)) := HD.out.own.at_ rfl
    have x0 := HD.out.own.frozen 0
    have x2 := HD.out.own.frozen 2
    obtain ⟨b, hb⟩ : ∃ b, b = r.take (ln r) := ⟨_, rfl⟩
    have HSB' : Hid (S = ⟨b.toArray⟩) := by show S = ⟨b.toArray⟩; rw [hb]; exact HSB.out
    have HB := hidden hb
    clear hb
    rcases HK3.out with h1 | h2 | h4
    · -- a name, or a key word
      subst h1
      go_wp2_with fail
      refine (word_S S b HSB'.out V HTV.out).mono ?_
      rintro e w1 ⟨rfl, hw1⟩
      rw [hw1]; clear hw1 w1
      cases hkey : isKey b with
      | true =>
        have HKEY := hidden hkey
        clear hkey
        go_wp2_with fail
        obtain ⟨V', hV'⟩ : ∃ V', V' = V.setCell ⟨B, 0, none⟩ (.int .i64 3) := ⟨_, rfl⟩
        have HD' : Hid (Duo w V' A B 3 S 0 q) := by rw [hV']; exact HD.out.kind _
        rw [← hV']
        clear hV' a0 a1 a2 a3 z0 z1 z2 z3 HD
        clear b1 y0 y2 x0 x2
        have HER : Hid (er r = 0) := by
          show er r = 0
          unfold er erOf
          rw [if_neg HL0.out, ← HK.out, ← HB.out, if_neg (by decide), if_pos ⟨rfl, HKEY.out⟩]
        refine wp_veil ?_
        have a0 : V'.cell? ⟨A, 0, none⟩ = some (.int .i64 ((0 : Nat) : Int)) := HD'.out.out.at_ rfl
        have a1 : V'.cell? ⟨A, 1, none⟩ = some (.string ⟨#[]⟩) := HD'.out.out.at_ rfl
        have a2 : V'.cell? ⟨A, 2, none⟩ = some (.int .i64 ((0 : Nat) : Int)) := HD'.out.out.at_ rfl
        have a3 : V'.cell? ⟨A, 3, none⟩ = some (.int .i64 ((0 : Nat) : Int)) := HD'.out.out.at_ rfl
        have z0 := HD'.out.out.frozen 0
        have z1 := HD'.out.out.frozen 1
        have z2 := HD'.out.out.frozen 2
        have z3 := HD'.out.out.frozen 3
        have b0 : V'.cell? ⟨B, 0, none⟩ = some (.int .i64 ((3 : Nat) : Int)) := HD'.out.own.at_ rfl
        have b1 : V'.cell? ⟨B, 1, none⟩ = some (.string S) := HD'.out.own.at_ rfl
        have b2 : V'.cell? ⟨B, 2, none⟩ = some (.int .i64 ((0 : Nat) : Int)) := HD'.out.own.at_ rfl
        have b3 : V'.cell? ⟨B, 3, none⟩ = some (.int .i64 (q : Int)) := HD'.out.own.at_ rfl
        go_wp2_with fail
        obtain ⟨W', hW', hH, hBel⟩ := HD'.out.tell 3 S 0 q
        try simp only [Int.natCast_zero] at hW'
        try rw [show ((1 : Nat) : Int) = 1 from rfl] at hW'
        try rw [show ((2 : Nat) : Int) = 2 from rfl] at hW'
        try rw [show ((3 : Nat) : Int) = 3 from rfl] at hW'
        try rw [show ((4 : Nat) : Int) = 4 from rfl] at hW'
        rw [← hW']
        have c0 : W'.cell? ⟨A, 0, none⟩ = some (.int .i64 ((3 : Nat) : Int)) := hH.at_ rfl
        have c1 : W'.cell? ⟨A, 1, none⟩ = some (.string S) := hH.at_ rfl
        have c2 : W'.cell? ⟨A, 2, none⟩ = some (.int .i64 ((0 : Nat) : Int)) := hH.at_ rfl
        have c3 : W'.cell? ⟨A, 3, none⟩ = some (.int .i64 (q : Int)) := hH.at_ rfl
        clear hW' hH
        exact bodyPost_ret (v := .tuple #[.agg (four 3 S 0 q), .int .i64 0]) (by simp [results, Tryd.results10, go_sem, c0, c1, c2, c3]; rfl) rfl ⟨told_ok 3 S 0 HER.out (by unfold kdOf; rw [← HK.out, ← HB.out]; exact if_pos ⟨rfl, HKEY.out⟩) HSB.out (by unfold nmOf; rw [← HK.out]; rfl) rfl, hBel⟩
      | false =>
        have HKEY := hidden hkey
        clear hkey
        by_cases hlong : 32 < S.size
        · have hl' : (32 : Int) < (S.size : Int) := by omega
          have HER : Hid (er r = 3) := by
            show er r = 3
            unfold er erOf
            have h3 : 32 < ln r := by have := HE.out; have := HSS.out; omega
            rw [if_neg HL0.out, ← HK.out, ← HB.out, if_neg (by decide), if_neg (fun h => by rw [HKEY.out] at h; exact absurd h.2 (by decide)), if_pos ⟨rfl, h3⟩]
          clear hlong
          go_wp2_with fail
          obtain ⟨W', hW', hH, hBel⟩ := HD.out.tell 0 ⟨#[]⟩ 0 0
          simp only [Int.natCast_zero] at hW'
          rw [← hW']
          have c0 : W'.cell? ⟨A, 0, none⟩ = some (.int .i64 ((0 : Nat) : Int)) := hH.at_ rfl
          have c1 : W'.cell? ⟨A, 1, none⟩ = some (.string ⟨#[]⟩) := hH.at_ rfl
          have c2 : W'.cell? ⟨A, 2, none⟩ = some (.int .i64 ((0 : Nat) : Int)) := hH.at_ rfl
          have c3 : W'.cell? ⟨A, 3, none⟩ = some (.int .i64 ((0 : Nat) : Int)) := hH.at_ rfl
          clear hW' hH
          exact bodyPost_ret (v := .tuple #[.agg (four 0 ⟨#[]⟩ 0 0), .int .i64 3]) (by simp [results, Tryd.results10, go_sem, c0, c1, c2, c3]; rfl) rfl ⟨told_bad 3 HER.out (by decide) rfl, hBel⟩
        · have hl' : ¬ (32 : Int) < (S.size : Int) := by omega
          have HER : Hid (er r = 0) := by
            show er r = 0
            unfold er erOf
            have h3 : ¬ 32 < ln r := by have := HE.out; have := HSS.out; omega
            rw [if_neg HL0.out, ← HK.out, ← HB.out, if_neg (by decide), if_neg (fun h => by rw [HKEY.out] at h; exact absurd h.2 (by decide)), if_neg (fun h => h3 h.2)]
          clear hlong
          go_wp2_with fail
          clear a0 a1 a2 a3 z0 z1 z2 z3 b1 y0 y2 x0 x2
          refine wp_veil ?_
          have a0 : V.cell? ⟨A, 0, none⟩ = some (.int .i64 ((0 : Nat) : Int)) := HD.out.out.at_ rfl
          have a1 : V.cell? ⟨A, 1, none⟩ = some (.string ⟨#[]⟩) := HD.out.out.at_ rfl
          have a2 : V.cell? ⟨A, 2, none⟩ = some (.int .i64 ((0 : Nat) : Int)) := HD.out.out.at_ rfl
          have a3 : V.cell? ⟨A, 3, none⟩ = some (.int .i64 ((0 : Nat) : Int)) := HD.out.out.at_ rfl
          have z0 := HD.out.out.frozen 0
          have z1 := HD.out.out.frozen 1
          have z2 := HD.out.out.frozen 2
          have z3 := HD.out.out.frozen 3
          have b0 : V.cell? ⟨B, 0, none⟩ = some (.int .i64 ((1 : Nat) : Int)) := HD.out.own.at_ rfl
          have b1 : V.cell? ⟨B, 1, none⟩ = some (.string S) := HD.out.own.at_ rfl
          have b2 : V.cell? ⟨B, 2, none⟩ = some (.int .i64 ((0 : Nat) : Int)) := HD.out.own.at_ rfl
          have b3 : V.cell? ⟨B, 3, none⟩ = some (.int .i64 (q : Int)) := HD.out.own.at_ rfl
          go_wp2_with fail
          obtain ⟨W', hW', hH, hBel⟩ := HD.out.tell 1 S 0 q
          try simp only [Int.natCast_zero] at hW'
          try rw [show ((1 : Nat) : Int) = 1 from rfl] at hW'
          try rw [show ((2 : Nat) : Int) = 2 from rfl] at hW'
          try rw [show ((3 : Nat) : Int) = 3 from rfl] at hW'
          try rw [show ((4 : Nat) : Int) = 4 from rfl] at hW'
          rw [← hW']
          have c0 : W'.cell? ⟨A, 0, none⟩ = some (.int .i64 ((1 : Nat) : Int)) := hH.at_ rfl
          have c1 : W'.cell? ⟨A, 1, none⟩ = some (.string S) := hH.at_ rfl
          have c2 : W'.cell? ⟨A, 2, none⟩ = some (.int .i64 ((0 : Nat) : Int)) := hH.at_ rfl
          have c3 : W'.cell? ⟨A, 3, none⟩ = some (.int .i64 (q : Int)) := hH.at_ rfl
          clear hW' hH
          exact bodyPost_ret (v := .tuple #[.agg (four 1 S 0 q), .int .i64 0]) (by simp [results, Tryd.results10, go_sem, c0, c1, c2, c3]; rfl) rfl ⟨told_ok 1 S 0 HER.out (by unfold kdOf; rw [← HK.out, ← HB.out]; exact if_neg (fun h => by rw [HKEY.out] at h; exact absurd h.2 (by decide))) HSB.out (by unfold nmOf; rw [← HK.out]; rfl) rfl, hBel⟩
    · -- a number
      subst h2
      go_wp2_with fail
      refine (number_S S b HSB'.out V (by have := HSS.out; omega)).mono ?_
      rintro e w1 ⟨rfl, hw1⟩
      rw [hw1]; clear hw1 w1
      unfold numV
      cases hnum : num b with
      | none =>
        have HER : Hid (er r = 7) := by
          show er r = 7
          unfold er erOf
          rw [if_neg HL0.out, ← HK.out, ← HB.out, if_pos rfl, hnum]
          rfl
        clear hnum
        go_wp2_with fail
        obtain ⟨W', hW', hH, hBel⟩ := HD.out.tell 0 ⟨#[]⟩ 0 0
        simp only [Int.natCast_zero] at hW'
        rw [← hW']
        have c0 : W'.cell? ⟨A, 0, none⟩ = some (.int .i64 ((0 : Nat) : Int)) := hH.at_ rfl
        have c1 : W'.cell? ⟨A, 1, none⟩ = some (.string ⟨#[]⟩) := hH.at_ rfl
        have c2 : W'.cell? ⟨A, 2, none⟩ = some (.int .i64 ((0 : Nat) : Int)) := hH.at_ rfl
        have c3 : W'.cell? ⟨A, 3, none⟩ = some (.int .i64 ((0 : Nat) : Int)) := hH.at_ rfl
        clear hW' hH
        exact bodyPost_ret (v := .tuple #[.agg (four 0 ⟨#[]⟩ 0 0), .int .i64 7]) (by simp [results, Tryd.results10, go_sem, c0, c1, c2, c3]; rfl) rfl ⟨told_bad 7 HER.out (by decide) rfl, hBel⟩
      | some n =>
        have HER : Hid (er r = 0) := by
          show er r = 0
          unfold er erOf
          rw [if_neg HL0.out, ← HK.out, ← HB.out, if_pos rfl, hnum]
          rfl
        have HNUM := hidden hnum
        clear hnum
        go_wp2_with fail
        obtain ⟨V', hV'⟩ : ∃ V', V' = V.setCell ⟨B, 2, none⟩ (.int .i64 (n : Int)) := ⟨_, rfl⟩
        have HD' : Hid (Duo w V' A B 2 S n q) := by rw [hV']; exact HD.out.num _
        rw [← hV']
        clear hV' a0 a1 a2 a3 z0 z1 z2 z3 HD
        clear b1 y0 y2 x0 x2
        refine wp_veil ?_
        have a0 : V'.cell? ⟨A, 0, none⟩ = some (.int .i64 ((0 : Nat) : Int)) := HD'.out.out.at_ rfl
        have a1 : V'.cell? ⟨A, 1, none⟩ = some (.string ⟨#[]⟩) := HD'.out.out.at_ rfl
        have a2 : V'.cell? ⟨A, 2, none⟩ = some (.int .i64 ((0 : Nat) : Int)) := HD'.out.out.at_ rfl
        have a3 : V'.cell? ⟨A, 3, none⟩ = some (.int .i64 ((0 : Nat) : Int)) := HD'.out.out.at_ rfl
        have z0 := HD'.out.out.frozen 0
        have z1 := HD'.out.out.frozen 1
        have z2 := HD'.out.out.frozen 2
        have z3 := HD'.out.out.frozen 3
        have b0 : V'.cell? ⟨B, 0, none⟩ = some (.int .i64 ((2 : Nat) : Int)) := HD'.out.own.at_ rfl
        have b1 : V'.cell? ⟨B, 1, none⟩ = some (.string S) := HD'.out.own.at_ rfl
        have b2 : V'.cell? ⟨B, 2, none⟩ = some (.int .i64 ((n : Nat) : Int)) := HD'.out.own.at_ rfl
        have b3 : V'.cell? ⟨B, 3, none⟩ = some (.int .i64 (q : Int)) := HD'.out.own.at_ rfl
        go_wp2_with fail
        obtain ⟨W', hW', hH, hBel⟩ := HD'.out.tell 2 S n q
        try simp only [Int.natCast_zero] at hW'
        try rw [show ((1 : Nat) : Int) = 1 from rfl] at hW'
        try rw [show ((2 : Nat) : Int) = 2 from rfl] at hW'
        try rw [show ((3 : Nat) : Int) = 3 from rfl] at hW'
        try rw [show ((4 : Nat) : Int) = 4 from rfl] at hW'
        rw [← hW']
        have c0 : W'.cell? ⟨A, 0, none⟩ = some (.int .i64 ((2 : Nat) : Int)) := hH.at_ rfl
        have c1 : W'.cell? ⟨A, 1, none⟩ = some (.string S) := hH.at_ rfl
        have c2 : W'.cell? ⟨A, 2, none⟩ = some (.int .i64 ((n : Nat) : Int)) := hH.at_ rfl
        have c3 : W'.cell? ⟨A, 3, none⟩ = some (.int .i64 (q : Int)) := hH.at_ rfl
        clear hW' hH
        exact bodyPost_ret (v := .tuple #[.agg (four 2 S n q), .int .i64 0]) (by simp [results, Tryd.results10, go_sem, c0, c1, c2, c3]; rfl) rfl ⟨told_ok 2 S n HER.out (by unfold kdOf; rw [← HK.out]; rfl) HSB.out (by unfold nmOf; rw [← HK.out, ← HB.out, HNUM.out]; rfl) rfl, hBel⟩
    · -- a sign
      subst h4
      have HER : Hid (er r = 0) := by
        show er r = 0
        unfold er erOf
        rw [if_neg HL0.out, ← HK.out]
        rfl
      go_wp2_with fail
      clear a0 a1 a2 a3 z0 z1 z2 z3 b1 y0 y2 x0 x2
      refine wp_veil ?_
      have a0 : V.cell? ⟨A, 0, none⟩ = some (.int .i64 ((0 : Nat) : Int)) := HD.out.out.at_ rfl
      have a1 : V.cell? ⟨A, 1, none⟩ = some (.string ⟨#[]⟩) := HD.out.out.at_ rfl
      have a2 : V.cell? ⟨A, 2, none⟩ = some (.int .i64 ((0 : Nat) : Int)) := HD.out.out.at_ rfl
      have a3 : V.cell? ⟨A, 3, none⟩ = some (.int .i64 ((0 : Nat) : Int)) := HD.out.out.at_ rfl
      have z0 := HD.out.out.frozen 0
      have z1 := HD.out.out.frozen 1
      have z2 := HD.out.out.frozen 2
      have z3 := HD.out.out.frozen 3
      have b0 : V.cell? ⟨B, 0, none⟩ = some (.int .i64 ((4 : Nat) : Int)) := HD.out.own.at_ rfl
      have b1 : V.cell? ⟨B, 1, none⟩ = some (.string S) := HD.out.own.at_ rfl
      have b2 : V.cell? ⟨B, 2, none⟩ = some (.int .i64 ((0 : Nat) : Int)) := HD.out.own.at_ rfl
      have b3 : V.cell? ⟨B, 3, none⟩ = some (.int .i64 (q : Int)) := HD.out.own.at_ rfl
      go_wp2_with fail
      obtain ⟨W', hW', hH, hBel⟩ := HD.out.tell 4 S 0 q
      try simp only [Int.natCast_zero] at hW'
      try rw [show ((1 : Nat) : Int) = 1 from rfl] at hW'
      try rw [show ((2 : Nat) : Int) = 2 from rfl] at hW'
      try rw [show ((3 : Nat) : Int) = 3 from rfl] at hW'
      try rw [show ((4 : Nat) : Int) = 4 from rfl] at hW'
      rw [← hW']
      have c0 : W'.cell? ⟨A, 0, none⟩ = some (.int .i64 ((4 : Nat) : Int)) := hH.at_ rfl
      have c1 : W'.cell? ⟨A, 1, none⟩ = some (.string S) := hH.at_ rfl
      have c2 : W'.cell? ⟨A, 2, none⟩ = some (.int .i64 ((0 : Nat) : Int)) := hH.at_ rfl
      have c3 : W'.cell? ⟨A, 3, none⟩ = some (.int .i64 (q : Int)) := hH.at_ rfl
      clear hW' hH
      exact bodyPost_ret (v := .tuple #[.agg (four 4 S 0 q), .int .i64 0]) (by simp [results, Tryd.results10, go_sem, c0, c1, c2, c3]; rfl) rfl ⟨told_ok 4 S 0 HER.out (by unfold kdOf; rw [← HK.out]; rfl) HSB.out (by unfold nmOf; rw [← HK.out]; rfl) rfl, hBel⟩
end Go.Proofs.YtjmhmoigheomdaaDoor
