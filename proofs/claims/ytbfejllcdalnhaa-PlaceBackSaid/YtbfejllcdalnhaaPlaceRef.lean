/- The walks through the document's own Of, At and Lines. -/
import Derived.Test.YtbfejllcdalnhaaPlaceRead
namespace Go.Proofs.Ytbfejllcdalnhaa
open Go.RowKit
set_option linter.unusedVariables false

theorem r_of (s : ByteArray) (x : Int) (w : World) (hs : s.size ≤ 1000000000) :
    Calls Try.prog 7 #[.string s, .int .i64 x] w fun e w' => e = .returned (.tuple #[.int .i64 (lnOf s.data.toList x), .int .i64 (colOf s.data.toList x), .bool (isPl s.data.toList x)]) ∧ w' = w := by
  obtain ⟨l, hl⟩ : ∃ l, l = s.data.toList := ⟨_, rfl⟩
  have hlen : l.length = s.size := by rw [hl]; exact Array.length_toList
  have HLEN := hidden hlen
  rw [← hl]
  have HL := hidden hl
  clear hl hlen
  go_enter Try.func7, Try.ntmps7
  go_wp2_with fail
  go_loop [7, 8, 9] (fun a b i => ∃ k n c : Nat, k ≤ s.size + 1 ∧ n ≤ k + 1 ∧ c ≤ k + 1 ∧ i = .int .i64 (k : Int) ∧ a = .int .i64 (n : Int) ∧ b = .int .i64 (c : Int) ∧ Hid (n = 1 + nl l k) ∧ Hid (c = k - st l k + 1) ∧ Hid (x < 0 ∨ (k : Int) ≤ x)) (fun _ _ i => s.size + 1 - (intOf i).toNat)
  case atStart => exact ⟨0, 1, 1, by omega, by omega, by omega, rfl, rfl, rfl, rfl, rfl, (show x < 0 ∨ (0 : Int) ≤ x by omega)⟩
  case round =>
    obtain ⟨k, n, c, hk, hnk, hck, rfl, rfl, rfl, hN, hC, hX⟩ := hrel
    have hst := hidden (st_le l k)
    by_cases hle : k ≤ s.size
    · by_cases hx : (k : Int) = x
      · have hx' : ((k : Int) == x) = true := by simpa using hx
        have HX := hidden hx
        clear hx
        go_wp2_with fail
        go_ret3
        refine ⟨?_, rfl⟩
        have hkl : k ≤ l.length := by rw [HLEN.out]; exact hle
        rw [← HX.out, lnOf_at hkl, colOf_at hkl, isPl_at hkl, ← hN.out, ← hC.out]
        rfl
      · have hx' : ((k : Int) == x) = false := by simpa using hx
        have HX : Hid (x < 0 ∨ ((k + 1 : Nat) : Int) ≤ x) := by have := hX.out; show x < 0 ∨ ((k + 1 : Nat) : Int) ≤ x; omega
        clear hx
        by_cases hlt : k < s.size
        · have hb := bt_of HL.out hlt
          by_cases h10 : bt l k = 10
          · have ht10 : ((s[k].toNat : Int) == 10) = true := by rw [← hb, h10]; rfl
            have H10 := hidden h10
            clear hb h10
            go_wp2_with fail
            go_round
            case rel => exact ⟨k + 1, n + 1, 1, by omega, by omega, by omega, by go_num, by go_num, rfl, (show n + 1 = 1 + nl l (k + 1) by rw [nl_hit H10.out, hN.out]; omega), (show 1 = k + 1 - st l (k + 1) + 1 by rw [st_hit H10.out]; omega), HX⟩
            case measure => simp [intOf]; omega
          · have ht10 : ((s[k].toNat : Int) == 10) = false := by
              rw [← hb]
              simp
              omega
            have H10 := hidden h10
            clear hb h10
            go_wp2_with fail
            go_round
            case rel => exact ⟨k + 1, n, c + 1, by omega, by omega, by omega, by go_num, rfl, by go_num, (show n = 1 + nl l (k + 1) by rw [nl_miss H10.out, hN.out]), (show c + 1 = k + 1 - st l (k + 1) + 1 by rw [st_miss H10.out, hC.out]; have := hst.out; omega), HX⟩
            case measure => simp [intOf]; omega
        · have H10 : Hid (¬ bt l k = 10) := fun h => by have := bt_lt h; rw [HLEN.out] at this; omega
          go_wp2_with fail
          go_round
          case rel => exact ⟨k + 1, n, c + 1, by omega, by omega, by omega, by go_num, rfl, by go_num, (show n = 1 + nl l (k + 1) by rw [nl_miss H10.out, hN.out]), (show c + 1 = k + 1 - st l (k + 1) + 1 by rw [st_miss H10.out, hC.out]; have := hst.out; omega), HX⟩
          case measure => simp [intOf]; omega
    · go_wp2_with fail
      go_ret3
      refine ⟨?_, rfl⟩
      obtain ⟨h1, h2, h3⟩ := pl_off (l := l) (i := x) (by have := hX.out; rw [HLEN.out]; omega)
      rw [h1, h2, h3]
      rfl
/-- At's answer -/
def TellsAt (l : List UInt8) (line column : Int) (e : Ending) : Prop := ∃ x u, e = .returned (.tuple #[.int .i64 x, .bool u]) ∧ AtIs l line column x u
theorem r_at (s : ByteArray) (line column : Int) (w : World) (hs : s.size ≤ 1000000000) :
    Calls Try.prog 9 #[.string s, .int .i64 line, .int .i64 column] w fun e w' => TellsAt s.data.toList line column e ∧ w' = w := by
  obtain ⟨l, hl⟩ : ∃ l, l = s.data.toList := ⟨_, rfl⟩
  have hlen : l.length = s.size := by rw [hl]; exact Array.length_toList
  have HLEN := hidden hlen
  rw [← hl]
  have HL := hidden hl
  clear hl hlen
  go_enter Try.func9, Try.ntmps9
  go_wp2_with fail
  go_loop [8] (fun i => ∃ k : Nat, k ≤ s.size + 1 ∧ i = .int .i64 (k : Int) ∧ Hid (∀ p : Nat, p < k → ¬ (line = 1 + nl l p ∧ column = (p : Int) - st l p + 1))) (fun i => s.size + 1 - (intOf i).toNat)
  case atStart => exact ⟨0, by omega, rfl, fun p hp => by omega⟩
  case round =>
    obtain ⟨k, hk, rfl, hP⟩ := hrel
    by_cases hle : k ≤ s.size
    · have hkl : Hid (k ≤ l.length) := by show k ≤ l.length; rw [HLEN.out]; exact hle
      go_wp2_with fail
      refine (r_of s k w hs).mono ?_
      rintro e w1 ⟨rfl, hw1⟩
      rw [hw1, ← HL.out, lnOf_at hkl.out, colOf_at hkl.out, isPl_at hkl.out]
      clear hw1 w1
      obtain ⟨n, hn⟩ : ∃ n, n = 1 + nl l k := ⟨_, rfl⟩
      obtain ⟨c, hc⟩ : ∃ c, c = k - st l k + 1 := ⟨_, rfl⟩
      have hst := hidden (st_le l k)
      rw [← hn, ← hc]
      have HN := hidden hn
      have HC := hidden hc
      clear hn hc
      by_cases h1 : (n : Int) = line
      · have h1' : ((n : Int) == line) = true := by simpa using h1
        have H1 := hidden h1
        clear h1
        by_cases h2 : (c : Int) = column
        · have h2' : ((c : Int) == column) = true := by simpa using h2
          have H2 := hidden h2
          clear h2
          go_wp2_with fail
          go_ret2
          refine ⟨⟨_, _, rfl, .inl ⟨rfl, k, hkl.out, rfl, ?_, ?_⟩⟩, rfl⟩
          · have := HN.out; have := H1.out; omega
          · have := HC.out; have := H2.out; have := hst.out; omega
        · have h2' : ((c : Int) == column) = false := by simpa using h2
          have H2 := hidden h2
          clear h2
          go_wp2_with fail
          go_round
          case rel => exact ⟨k + 1, by omega, by go_num, fun p hp hq => by
            rcases Nat.lt_or_ge p k with h | h
            · exact hP.out p h hq
            · obtain rfl : p = k := by omega
              have := HC.out; have := hst.out
              exact H2.out (by omega)⟩
          case measure => simp [intOf]; omega
      · have h1' : ((n : Int) == line) = false := by simpa using h1
        have H1 := hidden h1
        clear h1
        go_wp2_with fail
        go_round
        case rel => exact ⟨k + 1, by omega, by go_num, fun p hp hq => by
          rcases Nat.lt_or_ge p k with h | h
          · exact hP.out p h hq
          · obtain rfl : p = k := by omega
            have := HN.out
            exact H1.out (by omega)⟩
        case measure => simp [intOf]; omega
    · go_wp2_with fail
      go_ret2
      refine ⟨⟨_, _, rfl, .inr ⟨rfl, rfl, fun p hp => hP.out p ?_⟩⟩, rfl⟩
      rw [HLEN.out] at hp
      omega
/-- a line as a value -/
def txt (b : List UInt8) : Value := .string ⟨b.toArray⟩
theorem infoS : (Try.prog.info? 9).map (fun i => (i.zero, i.size, i.bytes)) = some (some (.string ⟨#[]⟩), 1, 16) := by kernel_rfl
theorem cut_one {l : List UInt8} {k : Nat} (h : k < l.length) : cut l k (k + 1) = [l.getD k 0] := by
  rw [cut_next (Nat.le_refl k) h, cut_none]; rfl
theorem r_lines (s : ByteArray) (w : World) (hs : s.size ≤ 1000000) :
    Calls Try.prog 10 #[.string s] w fun e w' => ∃ v, e = .returned v ∧ Vals 9 1 w w' v (lns s.data.toList).length ((lns s.data.toList).map txt) := by
  obtain ⟨l, hl⟩ : ∃ l, l = s.data.toList := ⟨_, rfl⟩
  have hlen : l.length = s.size := by rw [hl]; exact Array.length_toList
  have HLEN := hidden hlen
  rw [← hl]
  have HL := hidden hl
  clear hl hlen
  go_enter Try.func10, Try.ntmps10
  rw [veil 7, veil 10]
  go_wp2_with fail
  go_loopw [3, 4, 5] (fun v c i wr => ∃ (k : Nat) (S : ByteArray), k ≤ s.size ∧ i = .int .i64 (k : Int) ∧ c = .string S ∧ S.size ≤ k ∧ Hid (S = ⟨(cut l (st l k) k).toArray⟩) ∧ Hid (Vals 9 1 w wr v (nl l k) ((done l k).map txt))) (fun _ _ i _ => s.size - (intOf i).toNat)
  case atStart => exact ⟨0, ⟨#[]⟩, by omega, rfl, rfl, by decide, rfl, Vals.start _ _ w _ rfl⟩
  case round =>
    obtain ⟨k, S, hk, rfl, rfl, hSk, hS, hV⟩ := hrel
    by_cases hlt : k < s.size
    · have hb := bt_of HL.out hlt
      by_cases h10 : bt l k = 10
      · have ht10 : ((s[k].toNat : Int) == 10) = true := by rw [← hb, h10]; rfl
        have H10 := hidden h10
        clear hb h10
        go_wp2_with fail
        refine wp_veil ?_
        go_wp2_with (at_builtin; refine wpList_push_vals rfl (.tmp 17) (.tmp 19) 27 9 (.string ⟨#[]⟩) 1 16 Try.underlying27 infoS rfl (by decide) (by decide) rfl w wr _ (nl l k) ((done l k).map txt) [.string S] _ rfl rfl hV.out (by have := nl_le l k; omega) rfl rfl (by intro u hu; simp at hu; subst hu; rfl) ?_; intro v1 w3 hN3)
        go_roundw
        case rel => exact ⟨k + 1, ⟨#[]⟩, by omega, by go_num, rfl, Nat.zero_le _, (show (⟨#[]⟩ : ByteArray) = ⟨(cut l (st l (k + 1)) (k + 1)).toArray⟩ by rw [st_hit H10.out, cut_none]), (show Vals 9 1 w w3 v1 (nl l (k + 1)) ((done l (k + 1)).map txt) by
          rw [nl_hit H10.out]
          show Vals 9 1 w w3 v1 (nl l k + 1) ((if bt l k = 10 then done l k ++ [cut l (st l k) k] else done l k).map txt)
          rw [if_pos H10.out, List.map_append]
          have hx : [Value.string S] = [cut l (st l k) k].map txt := by rw [hS.out]; rfl
          rw [← hx]
          exact hN3)⟩
        case measure => simp [intOf]; omega
      · have ht10 : ((s[k].toNat : Int) == 10) = false := by
          rw [← hb]
          simp
          omega
        have H10 := hidden h10
        clear hb h10
        have hsl := fun (w : World) => run_slice_string (P := Try.prog) w 9 s .i64 .i64 (k : Int) ((k : Int) + 1) Try.underlying9 (by omega) (by omega) (by omega)
        obtain ⟨T, hT⟩ : ∃ T, T = s.extract (k : Int).toNat ((k : Int) + 1).toNat := ⟨_, rfl⟩
        have hT1 : T.size = 1 := by rw [hT, ByteArray.size_extract]; omega
        have hST : Hid (S ++ T = ⟨(cut l (st l (k + 1)) (k + 1)).toArray⟩) := by
          show S ++ T = _
          rw [hS.out, hT, show (k : Int).toNat = k by omega, show ((k : Int) + 1).toNat = k + 1 by omega, extract_cut, ← HL.out, ByteArray.mk_append_mk, st_miss H10.out, cut_one (by rw [HLEN.out]; exact hlt), ← cut_next (st_le l k) (by rw [HLEN.out]; exact hlt)]
        simp only [← hT] at hsl
        clear hT
        go_wp2_with fail
        go_roundw
        case rel => exact ⟨k + 1, S ++ T, by omega, by go_num, rfl, by rw [ByteArray.size_append]; omega, hST, (show Vals 9 1 w wr u3 (nl l (k + 1)) ((done l (k + 1)).map txt) by
          rw [nl_miss H10.out]
          show Vals 9 1 w wr u3 (nl l k) ((if bt l k = 10 then done l k ++ [cut l (st l k) k] else done l k).map txt)
          rw [if_neg H10.out]
          exact hV.out)⟩
        case measure => simp [intOf]; omega
    · obtain rfl : k = s.size := by omega
      go_wp2_with fail
      refine wp_veil ?_
      go_wp2_with (at_builtin; refine wpList_push_vals rfl (.tmp 28) (.tmp 30) 27 9 (.string ⟨#[]⟩) 1 16 Try.underlying27 infoS rfl (by decide) (by decide) rfl w wr _ (nl l s.size) ((done l s.size).map txt) [.string S] _ rfl rfl hV.out (by have := nl_le l s.size; omega) rfl rfl (by intro u hu; simp at hu; subst hu; rfl) ?_; intro v1 w3 hN3)
      go_ret
      refine ⟨_, rfl, ?_⟩
      unfold lns
      rw [HLEN.out, List.length_append, done_length, List.map_append]
      have hx : [Value.string S] = [cut l (st l s.size) s.size].map txt := by rw [hS.out]; rfl
      rw [← hx]
      exact hN3
end Go.Proofs.Ytbfejllcdalnhaa
