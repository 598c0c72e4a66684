/- The walk through the reference's Itoa, of numbers from 0 on. -/
import Derived.Test.YtihcepkdihmjoaaDoorTreeHead2
import Derived.Laws.IdiomStrings
namespace Go.Proofs.YtihcepkdihmjoaaDoor
open Go.RowKit
set_option linter.unusedVariables false

/-- the digits; none for 0 -/
def decs (u : Nat) : List UInt8 := if u = 0 then [] else Lib.decDigits u
theorem decs_next {u : Nat} (h : u ≠ 0) : decs u = decs (u / 10) ++ [UInt8.ofNat (48 + u % 10)] := by
  unfold decs
  rw [if_neg h, Lib.decDigits]
  by_cases h10 : u < 10
  · rw [dif_pos h10, if_pos (by omega), Nat.mod_eq_of_lt h10]; rfl
  · rw [dif_neg h10, if_neg (by omega)]
theorem one_byte (W : World) (u : Nat) (hu : u < 256) : (convert 46 9 (.slice (some ⟨W.heap.size, 0, none⟩) 1 1)).run Tryd.prog (W.alloc (.cells #[.int .u8 (u : Int)] 5)) =
    .ok (.string ⟨#[UInt8.ofNat u]⟩) (W.alloc (.cells #[.int .u8 (u : Int)] 5)) := by
  refine run_convert_bytes_back (P := Tryd.prog) (W.alloc (.cells #[.int .u8 (u : Int)] 5)) 46 9 5 ⟨W.heap.size, 0, none⟩ 1 [UInt8.ofNat u] Tryd.underlying46 Tryd.underlying5 Tryd.underlying9 ?_
  intro j hj
  have hj0 : j = 0 := by simp at hj; exact hj
  subst hj0
  have h := (Held.new W 5 #[.int .u8 (u : Int)]).at_ (j := 0) (v := .int .u8 (u : Int)) rfl
  rw [show (⟨W.heap.size, 0, none⟩ : Addr).add 0 = ⟨W.heap.size, 0, none⟩ from rfl, h]
  have : (UInt8.ofNat u).toNat = u := by simp [UInt8.toNat_ofNat']; omega
  simp [this]
set_option maxRecDepth 100000 in
theorem ritoa_any (n : Nat) (w : World) (hn : n ≤ 9223372036854775807) :
    Calls Tryd.prog 36 #[.int .i64 (n : Int)] w fun e w' => e = .returned (txt (Lib.itoa (n : Int))) ∧ Below w.heap.size w w' := by
  have HLEN := hidden (Lib.itoa_length_le (n : Int) (by omega) (by omega))
  by_cases h0 : n = 0
  · subst h0
    have HI : Hid (Lib.itoa ((0 : Nat) : Int) = [48]) := by
      show _ = _
      rw [show Lib.itoa ((0 : Nat) : Int) = Lib.decDigits 0 from rfl, Lib.decDigits, dif_pos (by omega)]
      rfl
    rw [HI.out]
    go_enter Tryd.func36, Tryd.ntmps36
    go_wp2_with fail
    go_ret
    exact ⟨rfl, Below.refl _ _⟩
  · have HI : Hid (Lib.itoa (n : Int) = decs n) := by
      show _ = _
      unfold Lib.itoa decs
      rw [if_neg (by omega), if_neg h0, Int.toNat_natCast]
    rw [HI.out] at HLEN ⊢
    have hne : ((n : Int) == 0) = false := by simp; omega
    obtain ⟨D0, hD0⟩ : ∃ D0, D0 = decs n := ⟨_, rfl⟩
    rw [← hD0] at HLEN HI ⊢
    have HD0 := hidden hD0
    clear hD0
    go_enter Tryd.func36, Tryd.ntmps36
    go_wp2_with fail
    go_loopw [3, 4] (fun t3 t4 wr => ∃ (u : Nat) (D : List UInt8), u ≤ n ∧ t4 = .int .i64 (u : Int) ∧ t3 = .string ⟨D.toArray⟩ ∧ D.length ≤ 21 ∧ Hid (D0 = decs u ++ D) ∧ Hid (Below w.heap.size w wr)) (fun _ t4 _ => (intOf t4).toNat)
    case atStart => exact ⟨n, [], by omega, rfl, rfl, by simp, (by show _ = _; rw [HD0.out, List.append_nil]), Below.refl _ _⟩
    case round =>
      obtain ⟨u, D, hu, rfl, rfl, hD, HD, HB⟩ := hrel
      by_cases hu0 : u = 0
      · subst hu0
        go_wp2_with fail
        go_ret
        refine ⟨?_, HB.out⟩
        rw [HD.out]
        rfl
      · have hune : ((u : Int) != 0) = true := by simp; omega
        have HNX := hidden (decs_next hu0)
        obtain ⟨R, hR⟩ : ∃ R, R = u % 10 := ⟨_, rfl⟩
        obtain ⟨Q, hQ⟩ : ∃ Q, Q = u / 10 := ⟨_, rfl⟩
        rw [← hR, ← hQ] at HNX
        have hR10 : R < 10 := by omega
        have e1 : (u : Int).tmod 10 = (R : Int) := by rw [Int.tmod_eq_emod_of_nonneg (by omega)]; omega
        have e2 : (u : Int).tdiv 10 = (Q : Int) := by rw [Int.tdiv_eq_ediv_of_nonneg (by omega)]; omega
        have hQu : Q < u := by omega
        clear hR hQ
        have hob := one_byte wr (48 + R) (by omega)
        rw [show ((48 + R : Nat) : Int) = 48 + (R : Int) by omega] at hob
        have HLN : Hid (D.length + 1 ≤ 21) := by
          have h1 := HLEN.out
          rw [HD.out, HNX.out] at h1
          simp at h1
          show _ ≤ _
          omega
        have HBW : Hid (Below w.heap.size w (wr.alloc (.cells #[.int .u8 (48 + (R : Int))] 5))) := HB.out.alloc HB.out.size _
        go_wp2_with fail
        go_roundw
        case rel => exact ⟨Q, UInt8.ofNat (48 + R) :: D, by omega, by go_num, (by congr 1; apply ByteArray.ext; simp), HLN.out, (by show _ = _; rw [HD.out, HNX.out]; simp), HBW.out⟩
        case measure => simp [intOf]; omega
end Go.Proofs.YtihcepkdihmjoaaDoor
