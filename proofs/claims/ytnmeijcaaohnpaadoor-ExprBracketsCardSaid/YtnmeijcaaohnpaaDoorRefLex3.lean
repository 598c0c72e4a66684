/- The walk through the reference's sign. -/
import Derived.Test.YtnmeijcaaohnpaaDoorRefLex2
namespace Go.Proofs.YtnmeijcaaohnpaaDoor
open Go.RowKit
set_option linter.unusedVariables false

theorem ext_two {s : ByteArray} {l : List UInt8} (hl : l = s.data.toList) (h : 2 ≤ s.size) : (s.extract 0 2).toList = [l.getD 0 0, l.getD 1 0] := by
  rw [toList_of, extract_take, ← hl]
  have hlen : l.length = s.size := by rw [hl]; exact Array.length_toList
  match l, hlen with
  | [], e => simp at e; omega
  | [a], e => simp at e; omega
  | a :: b :: r, e => rfl
theorem two_end {a : UInt8} : ∀ j, j < 9 → [a, 0] ≠ twos.getD j [] := by
  intro j hj
  have : j = 0 ∨ j = 1 ∨ j = 2 ∨ j = 3 ∨ j = 4 ∨ j = 5 ∨ j = 6 ∨ j = 7 ∨ j = 8 := by omega
  rcases this with rfl | rfl | rfl | rfl | rfl | rfl | rfl | rfl | rfl <;> (intro h; injection h with _ h2; injection h2 with h2 _; revert h2; decide)
theorem ones_get {O : ByteArray} (hO : O = ⟨ones.toArray⟩) {k : Nat} (hk : k < O.size) : O[k] = ones.getD k 0 := by
  subst hO
  have hk' : k < ones.length := hk
  rw [List.getD_eq_getElem?_getD, List.getElem?_eq_getElem hk']
  rfl
set_option maxRecDepth 100000 in
theorem rsign_any (s : ByteArray) (w : World) (hs : s.size ≤ 1000000000) (h1 : 1 ≤ s.size) :
    Calls Tryd.prog 35 #[.string s] w fun e w' => e = .returned (.int .i64 (sgn (bt s.data.toList 0) (bt s.data.toList 1) : Nat)) ∧ Below w.heap.size w w' := by
  obtain ⟨l, hl⟩ : ∃ l, l = s.data.toList := ⟨_, rfl⟩
  have HLEN : Hid (l.length = s.size) := by rw [hl]; exact Array.length_toList
  rw [← hl]
  have HL := hidden hl
  have H0 : Hid (s[0] = l.getD 0 0) := by
    show s[0] = l.getD 0 0
    rw [hl, List.getD_eq_getElem?_getD, List.getElem?_eq_getElem (by rw [length_of]; omega)]
    rfl
  clear hl
  obtain ⟨O, hO⟩ : ∃ O : ByteArray, O = ⟨ones.toArray⟩ := ⟨_, rfl⟩
  have hOs : O.size = 17 := by rw [hO]; rfl
  go_enter Tryd.func35, Tryd.ntmps35
  go_wp2_with fail
  rw [show (⟨#[60, 62, 43, 45, 42, 47, 37, 33, 61, 40, 41, 123, 125, 91, 93, 44, 59]⟩ : ByteArray) = O from hO.symm]
  have HO := hidden hO
  have HOS := hidden hOs
  clear hO hOs
  obtain ⟨W, hW⟩ : ∃ W, W = w.alloc (.cells twoCells 9) := ⟨_, rfl⟩
  rw [show w.alloc (.cells #[.string ⟨#[124, 124]⟩, .string ⟨#[38, 38]⟩, .string ⟨#[61, 61]⟩, .string ⟨#[33, 61]⟩, .string ⟨#[60, 61]⟩, .string ⟨#[62, 61]⟩, .string ⟨#[43, 37]⟩, .string ⟨#[45, 37]⟩, .string ⟨#[42, 37]⟩] 9) = W from hW.symm]
  have HB : Hid (Below w.heap.size w W) := by rw [hW]; exact (Below.refl _ _).alloc (Nat.le_refl _) _
  have HH : Hid (Held W w.heap.size 9 twoCells) := by rw [hW]; exact Held.new w 9 twoCells
  obtain ⟨g, hg⟩ : ∃ g, g = w.heap.size := ⟨_, rfl⟩
  rw [← hg] at HH ⊢
  clear hg hW
  go_loopw [5] (fun i wr => ∃ k q : Nat, k ≤ 9 ∧ i = .int .i64 (k : Int) ∧ wr = W.drewN q ∧ Hid (2 ≤ s.size → ∀ j, j < k → [l.getD 0 0, l.getD 1 0] ≠ twos.getD j [])) (fun i _ => 9 - (intOf i).toNat)
  case atStart => exact ⟨0, 0, by omega, rfl, rfl, fun _ j hj => by omega⟩
  case round =>
    obtain ⟨k, q, hk, rfl, rfl, hK⟩ := hrel
    have next : Hid (∀ q : Nat, (∀ j, j < 9 → [l.getD 0 0, l.getD 1 0] ≠ twos.getD j []) → True) := fun _ _ => trivial
    by_cases hgo : k < 9 ∧ 2 ≤ s.size
    · obtain ⟨hk9, h2⟩ := hgo
      have hTL := ext_two HL.out h2
      have hc := HH.out.at_ (twos_at hk9)
      unfold txt at hc
      obtain ⟨c, hcc⟩ : ∃ c, c = twos.getD k [] := ⟨_, rfl⟩
      rw [← hcc] at hc
      have HC := hidden hcc
      clear hcc
      have h2i : (2 : Int) ≤ (s.size : Int) := by omega
      obtain ⟨X, hX⟩ : ∃ X, X = s.extract 0 2 := ⟨_, rfl⟩
      rw [← hX] at hTL
      have hXX : s.extract 0 2 = X := hX.symm
      have HTL := hidden hTL
      clear hTL hX
      by_cases hE : [l.getD 0 0, l.getD 1 0] = c
      · have he' : (X.toList == c) = true := by rw [HTL.out]; simpa using hE
        have he2 : (c == X.toList) = true := by rw [HTL.out]; simpa using hE.symm
        have HE := hidden hE
        clear hE
        go_wp2_with fail
        go_quiet (fail)
        go_wp2_with fail
        go_ret
        refine ⟨?_, HB.out.trans (by rw [World.drewN_drewN]; exact below_drewN _ _ _)⟩
        have := sgn_two hk9 (HE.out.trans HC.out)
        unfold bt
        rw [this]
        rfl
      · have he' : (X.toList == c) = false := by rw [HTL.out]; simpa using hE
        have he2 : (c == X.toList) = false := by rw [HTL.out]; simpa using fun h : c = _ => hE h.symm
        have HE := hidden hE
        clear hE
        go_wp2_with fail
        go_quiet (fail)
        go_wp2_with fail
        go_roundw
        case rel => exact ⟨k + 1, q + nq, by omega, by go_num, rfl, fun h j hj => by
          rcases Nat.lt_or_ge j k with g | g
          · exact hK.out h j g
          · obtain rfl : j = k := by omega
            rw [← HC.out]
            exact HE.out⟩
        case measure => simp [intOf]; omega
    · have HNT : Hid (∀ j, j < 9 → [l.getD 0 0, l.getD 1 0] ≠ twos.getD j []) := by
        intro j hj
        rcases Nat.lt_or_ge s.size 2 with h2 | h2
        · have e : l.getD 1 0 = 0 := by rw [List.getD_eq_getElem?_getD, List.getElem?_eq_none (by rw [HLEN.out]; omega)]; rfl
          rw [e]
          exact two_end j hj
        · exact hK.out h2 j (by omega)
      clear next
      obtain ⟨V, hV⟩ : ∃ V, V = W.drewN q := ⟨_, rfl⟩
      have HBV : Hid (Below w.heap.size w V) := by rw [hV]; exact HB.out.trans (below_drewN _ _ _)
      have hdone : (k < 9 ∧ s.size < 2) ∨ k = 9 := by omega
      clear hgo
      rw [← hV]
      clear hV
      rcases hdone with ⟨hk9, h2⟩ | h9
      · have h2i : ¬ (2 : Int) ≤ (s.size : Int) := by omega
        go_wp2_with fail
        go_loopw [6] (fun i wr => ∃ k q : Nat, k ≤ O.size ∧ i = .int .i64 (k : Int) ∧ wr = V.drewN q ∧ Hid (∀ j, j < k → l.getD 0 0 ≠ ones.getD j 0)) (fun i _ => O.size - (intOf i).toNat)
        case atStart => exact ⟨0, 0, by omega, rfl, rfl, fun j hj => by omega⟩
        case round =>
          obtain ⟨m, q, hm, rfl, rfl, hK⟩ := hrel
          have h01 : 0 < s.size := by omega
          have hm17 : m ≤ 17 := by rw [← HOS.out]; exact hm
          have h02 : (0 : Int) < (s.size : Int) := by omega
          by_cases hmO : m < O.size
          · have hOm := ones_get HO.out hmO
            have HOM := hidden hOm
            clear hOm
            have HM17 : Hid (m < 17) := by show m < 17; rw [← HOS.out]; exact hmO
            by_cases hE : s[0].toNat = O[m].toNat
            · have he' : ((s[0].toNat : Int) == (O[m].toNat : Int)) = true := by simp [hE]
              have he2 : (s[0].toNat == O[m].toNat) = true := by simp [hE]
              have HE := hidden hE
              clear hE
              go_wp2_with fail
              go_quiet (fail)
              go_wp2_with fail
              go_ret
              refine ⟨?_, HBV.out.trans (by rw [World.drewN_drewN]; exact below_drewN _ _ _)⟩
              have := sgn_one HNT.out HM17.out (by rw [← HOM.out, ← H0.out]; exact UInt8.toNat_inj.1 HE.out)
              unfold bt
              rw [this]
              rfl
            · have he' : ((s[0].toNat : Int) == (O[m].toNat : Int)) = false := by simp; omega
              have he2 : (s[0].toNat == O[m].toNat) = false := by simp; omega
              have HE := hidden hE
              clear hE
              go_wp2_with fail
              go_quiet (fail)
              go_wp2_with fail
              go_roundw
              case rel => exact ⟨m + 1, q + nq, by omega, by go_num, rfl, fun j hj => by
                rcases Nat.lt_or_ge j m with g | g
                · exact hK.out j g
                · obtain rfl : j = m := by omega
                  rw [← HOM.out, ← H0.out]
                  exact fun e => HE.out (congrArg UInt8.toNat e)⟩
              case measure => simp [intOf]; omega
          · go_wp2_with fail
            go_ret
            refine ⟨?_, HBV.out.trans (below_drewN _ _ _)⟩
            have hm18 : m = 17 := by have := HOS.out; omega
            have := sgn_none HNT.out (fun j hj => hK.out j (by omega))
            unfold bt
            rw [this]
            rfl
      · subst h9
        go_wp2_with fail
        go_loopw [6] (fun i wr => ∃ k q : Nat, k ≤ O.size ∧ i = .int .i64 (k : Int) ∧ wr = V.drewN q ∧ Hid (∀ j, j < k → l.getD 0 0 ≠ ones.getD j 0)) (fun i _ => O.size - (intOf i).toNat)
        case atStart => exact ⟨0, 0, by omega, rfl, rfl, fun j hj => by omega⟩
        case round =>
          obtain ⟨m, q, hm, rfl, rfl, hK⟩ := hrel
          have h01 : 0 < s.size := by omega
          have hm17 : m ≤ 17 := by rw [← HOS.out]; exact hm
          have h02 : (0 : Int) < (s.size : Int) := by omega
          by_cases hmO : m < O.size
          · have hOm := ones_get HO.out hmO
            have HOM := hidden hOm
            clear hOm
            have HM17 : Hid (m < 17) := by show m < 17; rw [← HOS.out]; exact hmO
            by_cases hE : s[0].toNat = O[m].toNat
            · have he' : ((s[0].toNat : Int) == (O[m].toNat : Int)) = true := by simp [hE]
              have he2 : (s[0].toNat == O[m].toNat) = true := by simp [hE]
              have HE := hidden hE
              clear hE
              go_wp2_with fail
              go_quiet (fail)
              go_wp2_with fail
              go_ret
              refine ⟨?_, HBV.out.trans (by rw [World.drewN_drewN]; exact below_drewN _ _ _)⟩
              have := sgn_one HNT.out HM17.out (by rw [← HOM.out, ← H0.out]; exact UInt8.toNat_inj.1 HE.out)
              unfold bt
              rw [this]
              rfl
            · have he' : ((s[0].toNat : Int) == (O[m].toNat : Int)) = false := by simp; omega
              have he2 : (s[0].toNat == O[m].toNat) = false := by simp; omega
              have HE := hidden hE
              clear hE
              go_wp2_with fail
              go_quiet (fail)
              go_wp2_with fail
              go_roundw
              case rel => exact ⟨m + 1, q + nq, by omega, by go_num, rfl, fun j hj => by
                rcases Nat.lt_or_ge j m with g | g
                · exact hK.out j g
                · obtain rfl : j = m := by omega
                  rw [← HOM.out, ← H0.out]
                  exact fun e => HE.out (congrArg UInt8.toNat e)⟩
              case measure => simp [intOf]; omega
          · go_wp2_with fail
            go_ret
            refine ⟨?_, HBV.out.trans (below_drewN _ _ _)⟩
            have hm18 : m = 17 := by have := HOS.out; omega
            have := sgn_none HNT.out (fun j hj => hK.out j (by omega))
            unfold bt
            rw [this]
            rfl
end Go.Proofs.YtnmeijcaaohnpaaDoor
