/- The walks through Of, At, Lines and Line. -/
import Derived.Test.YtbfejllcdalnhaaPlaceFind
import Derived.Test.YtbfejllcdalnhaaGenVeil
import Derived.Deep.QuietTactic
import Derived.BigQuiet
import Derived.Test.YtbfejllcdalnhaaGenBytes
namespace Go.Proofs.Ytbfejllcdalnhaa
open Go.RowKit
set_option linter.unusedVariables false

theorem p_of_none (s : ByteArray) (i : Int) (w : World) (hs : s.size ≤ 1000000000) (h : i < 0 ∨ (s.size : Int) < i) :
    Calls Try.prog 6 #[.string s, .int .i64 i] w fun e w' => e = .returned (.tuple #[.int .i64 0, .int .i64 0, .bool false]) ∧ w' = w := by
  rcases h with h | h
  · go_enter Try.func6, Try.ntmps6
    go_wp2_with fail
    exact bodyPost_ret (v := .tuple #[.int .i64 0, .int .i64 0, .bool false]) (by simp [results, Try.results6, go_sem]) rfl ⟨rfl, rfl⟩
  · have h' : ¬ i < 0 := by omega
    go_enter Try.func6, Try.ntmps6
    go_wp2_with fail
    exact bodyPost_ret (v := .tuple #[.int .i64 0, .int .i64 0, .bool false]) (by simp [results, Try.results6, go_sem]) rfl ⟨rfl, rfl⟩
theorem Found.all {l : List UInt8} {t : Nat} (h : Found l 9223372036854775807 t) (hl : l.length ≤ 1000000000) : t = l.length := by
  rcases h.2.1 with e | e
  · exact e
  · have h1 := end_le h.1
    have h2 := nl_le l t
    omega
theorem find_whole (s : ByteArray) (w : World) (hs : s.size ≤ 1000000000) :
    Calls Try.prog 13 #[.string s, .int .i64 9223372036854775807] w fun e w' => e = .returned (.agg (trio (1 + nl s.data.toList s.size) (st s.data.toList s.size) s.size)) ∧ Below w.heap.size w w' := by
  refine (find_any s 9223372036854775807 w hs).mono ?_
  rintro e w1 ⟨t, rfl, hf, hb⟩
  have ht := hf.all (by rw [length_of]; exact hs)
  rw [length_of] at ht
  subst ht
  exact ⟨rfl, hb⟩
theorem find_upto (s : ByteArray) (k : Nat) (w : World) (hs : s.size ≤ 1000000000) (hk : k ≤ s.size) :
    Calls Try.prog 13 #[.string (s.extract 0 k), .int .i64 9223372036854775807] w fun e w' => e = .returned (.agg (trio (1 + nl s.data.toList k) (st s.data.toList k) k)) ∧ Below w.heap.size w w' := by
  have he := size_extract s k hk
  refine (find_whole (s.extract 0 k) w (by omega)).mono ?_
  rintro e w1 ⟨rfl, hb⟩
  rw [he, extract_take, nl_take (Nat.le_refl k), st_take (Nat.le_refl k)]
  exact ⟨rfl, hb⟩
theorem p_of_some (s : ByteArray) (k : Nat) (w : World) (hs : s.size ≤ 1000000000) (h : k ≤ s.size) :
    Calls Try.prog 6 #[.string s, .int .i64 (k : Int)] w fun e w' => e = .returned (.tuple #[.int .i64 ((1 + nl s.data.toList k : Nat) : Int), .int .i64 ((k - st s.data.toList k + 1 : Nat) : Int), .bool true]) ∧ Below w.heap.size w w' := by
  go_enter Try.func6, Try.ntmps6
  go_wp2_with fail
  refine (find_upto s k w hs h).mono ?_
  rintro e w1 ⟨rfl, hb⟩
  obtain ⟨n, hn⟩ : ∃ n, n = 1 + nl s.data.toList k := ⟨_, rfl⟩
  obtain ⟨f, hf⟩ : ∃ f, f = st s.data.toList k := ⟨_, rfl⟩
  have hfk : f ≤ k := by rw [hf]; exact st_le _ _
  rw [← hn, ← hf]
  have HB := hidden hb
  have HN := hidden hn
  have HF := hidden hf
  clear hn hf hb
  unfold trio
  go_wp2_with fail
  go_quiet (fail)
  go_wp2_with fail
  go_ret3
  refine ⟨?_, ?_⟩
  · rw [← HN.out, ← HF.out, show (k : Int) - f + 1 = ((k - f + 1 : Nat) : Int) by omega]; rfl
  · exact (HB.out.alloc HB.out.size _).trans (below_drewN _ _ _)
theorem field_0 (a b c : Nat) (w : World) : (Instr.field 35 (.agg #[.int .i64 (a : Int), .int .i64 (b : Int), .int .i64 (c : Int)]) 0).run Try.prog w = .ok (.int .i64 (a : Int)) w := by kernel_rfl
theorem p_lines (s : ByteArray) (w : World) (hs : s.size ≤ 1000000000) :
    Calls Try.prog 12 #[.string s] w fun e w' => e = .returned (.int .i64 ((1 + nl s.data.toList s.size : Nat) : Int)) ∧ Below w.heap.size w w' := by
  go_enter Try.func12, Try.ntmps12
  go_wp2_with fail
  refine (find_whole s w hs).mono ?_
  rintro e w1 ⟨rfl, hb⟩
  have HB := hidden hb
  clear hb
  obtain ⟨n, hn⟩ : ∃ n, n = 1 + nl s.data.toList s.size := ⟨_, rfl⟩
  rw [← hn]
  have HN := hidden hn
  clear hn
  unfold trio
  have hfd := fun (w : World) => field_0 n (st s.data.toList s.size) s.size w
  go_wp2_with fail
  go_ret
  exact ⟨by rw [HN.out]; rfl, HB.out⟩
theorem p_at (s : ByteArray) (line column : Int) (w : World) (hs : s.size ≤ 1000000000) :
    Calls Try.prog 8 #[.string s, .int .i64 line, .int .i64 column] w fun e w' => ∃ x u, e = .returned (.tuple #[.int .i64 x, .bool u]) ∧ AtIs s.data.toList line column x u ∧ Below w.heap.size w w' := by
  go_enter Try.func8, Try.ntmps8
  go_wp2_with fail
  refine (find_any s line w hs).mono ?_
  rintro e w1 ⟨t, rfl, hF, hb⟩
  obtain ⟨n, hn⟩ : ∃ n, n = 1 + nl s.data.toList t := ⟨_, rfl⟩
  obtain ⟨f, hf⟩ : ∃ f, f = st s.data.toList t := ⟨_, rfl⟩
  have hft : f ≤ t := by rw [hf]; exact st_le _ _
  have hts : t ≤ 1000000000 := by have := end_le hF.1; rw [length_of] at this; omega
  rw [← hn, ← hf]
  have HB := hidden hb
  have HN := hidden hn
  have HF := hidden hf
  have HFO := hidden hF
  clear hn hf hb hF
  unfold trio
  by_cases h1 : (n : Int) = line
  · subst h1
    by_cases h2 : 1 ≤ column
    · by_cases h3 : column ≤ (t : Int) - (f : Int) + 1
      · go_wp2_with fail
        go_ret2
        refine ⟨_, _, rfl, ?_, HB.out.alloc HB.out.size _⟩
        have hx : (f : Int) + column - 1 = (st s.data.toList t : Int) + column - 1 := by rw [← HF.out]
        rw [hx]
        exact AtIs.found HFO.out (by have := HN.out; omega) h2 (by have := HF.out; omega)
      · go_wp2_with fail
        go_ret2
        exact ⟨_, _, rfl, AtIs.missed HFO.out (fun _ h => by have := HF.out; omega), HB.out.alloc HB.out.size _⟩
    · go_wp2_with fail
      go_ret2
      exact ⟨_, _, rfl, AtIs.missed HFO.out (fun _ h => by omega), HB.out.alloc HB.out.size _⟩
  · have h1' : ((n : Int) != line) = true := by simpa using h1
    have H1 := hidden h1
    clear h1
    go_wp2_with fail
    go_ret2
    exact ⟨_, _, rfl, AtIs.missed HFO.out (fun h => absurd (by have := HN.out; omega) H1.out), HB.out.alloc HB.out.size _⟩
theorem p_line_none (s : ByteArray) (line : Int) (w : World) (hs : s.size ≤ 1000000000) (h : line < 1 ∨ (1 + nl s.data.toList s.size : Int) < line) :
    Calls Try.prog 11 #[.string s, .int .i64 line] w fun e w' => e = .returned (.tuple #[.string ⟨#[]⟩, .bool false]) ∧ Below w.heap.size w w' := by
  go_enter Try.func11, Try.ntmps11
  go_wp2_with fail
  refine (find_any s line w hs).mono ?_
  rintro e w1 ⟨t, rfl, hF, hb⟩
  obtain ⟨n, hn⟩ : ∃ n, n = 1 + nl s.data.toList t := ⟨_, rfl⟩
  have hne : (n : Int) ≠ line := by
    have h1 := nl_mono s.data.toList (end_le hF.1)
    rw [length_of] at h1
    omega
  have hne' : ((n : Int) != line) = true := by simpa using hne
  rw [← hn]
  have HB := hidden hb
  clear hn hb hF hne h
  unfold trio
  go_wp2_with fail
  go_ret2
  exact ⟨rfl, HB.out.alloc HB.out.size _⟩
theorem p_line_some (s : ByteArray) (line : Int) (w : World) (hs : s.size ≤ 1000000000) (h1 : 1 ≤ line) (h2 : line ≤ (1 + nl s.data.toList s.size : Int)) :
    Calls Try.prog 11 #[.string s, .int .i64 line] w fun e w' => ∃ t : Nat, e = .returned (.tuple #[.string ⟨(cut s.data.toList (st s.data.toList t) t).toArray⟩, .bool true]) ∧ isEnd s.data.toList t ∧ (1 + nl s.data.toList t : Int) = line ∧ Below w.heap.size w w' := by
  go_enter Try.func11, Try.ntmps11
  rw [veil 4]
  go_wp2_with fail
  refine (find_any s line w hs).mono ?_
  rintro e w1 ⟨t, rfl, hF, hb⟩
  obtain ⟨n, hn⟩ : ∃ n, n = 1 + nl s.data.toList t := ⟨_, rfl⟩
  obtain ⟨f, hf⟩ : ∃ f, f = st s.data.toList t := ⟨_, rfl⟩
  have hft : f ≤ t := by rw [hf]; exact st_le _ _
  have hts : t ≤ s.size := by have := end_le hF.1; rw [length_of] at this; omega
  have hl : (n : Int) = line := by
    have := hF.one h1 (by rw [length_of]; exact h2)
    omega
  have hl' : ((n : Int) != line) = false := by simpa using hl
  rw [← hn, ← hf]
  have HB := hidden hb
  have HN := hidden hn
  have HF := hidden hf
  have HFO := hidden hF
  have HL := hidden hl
  clear hn hf hb hF hl h1 h2
  unfold trio
  go_wp2_with fail
  refine wp_veil ?_
  obtain ⟨W, hW⟩ : ∃ W, W = w1.alloc (.cells #[.int .i64 (n : Int), .int .i64 (f : Int), .int .i64 (t : Int)] 35) := ⟨_, rfl⟩
  have hH : Held W w1.heap.size 35 #[.int .i64 (n : Int), .int .i64 (f : Int), .int .i64 (t : Int)] := by rw [hW]; exact Held.new _ _ _
  have c1 : W.cell? ⟨w1.heap.size, 1, none⟩ = some (.int .i64 (f : Int)) := hH.at_ rfl
  have c2 : W.cell? ⟨w1.heap.size, 2, none⟩ = some (.int .i64 (t : Int)) := hH.at_ rfl
  have hBW : Hid (Below w.heap.size w W) := by rw [hW]; exact HB.out.alloc HB.out.size _
  rw [← hW]
  clear hW hH HB
  obtain ⟨cap, C, fr, hconv, hback⟩ := bytes_there W (s.extract f t) (t - f) (by rw [ByteArray.size_extract]; omega)
  go_wp2_with fail
  go_ret2
  refine ⟨t, ?_, HFO.out.1, by have := HN.out; have := HL.out; omega, ?_⟩
  · rw [← HF.out, ← extract_cut]; rfl
  · exact (hBW.out.alloc hBW.out.size _).trans (below_drewN _ 1 _)
/-- what Of tells: a place's line -/
def lnOf (l : List UInt8) (i : Int) : Int := if 0 ≤ i ∧ i ≤ (l.length : Int) then ((1 + nl l i.toNat : Nat) : Int) else 0
/-- and its column -/
def colOf (l : List UInt8) (i : Int) : Int := if 0 ≤ i ∧ i ≤ (l.length : Int) then ((i.toNat - st l i.toNat + 1 : Nat) : Int) else 0
/-- is it a place? -/
def isPl (l : List UInt8) (i : Int) : Bool := decide (0 ≤ i ∧ i ≤ (l.length : Int))
theorem lnOf_at {l : List UInt8} {k : Nat} (h : k ≤ l.length) : lnOf l (k : Int) = ((1 + nl l k : Nat) : Int) := by
  unfold lnOf; rw [if_pos ⟨by omega, by omega⟩, Int.toNat_natCast]
theorem colOf_at {l : List UInt8} {k : Nat} (h : k ≤ l.length) : colOf l (k : Int) = ((k - st l k + 1 : Nat) : Int) := by
  unfold colOf; rw [if_pos ⟨by omega, by omega⟩, Int.toNat_natCast]
theorem isPl_at {l : List UInt8} {k : Nat} (h : k ≤ l.length) : isPl l (k : Int) = true := decide_eq_true ⟨by omega, by omega⟩
theorem pl_off {l : List UInt8} {i : Int} (h : i < 0 ∨ (l.length : Int) < i) : lnOf l i = 0 ∧ colOf l i = 0 ∧ isPl l i = false :=
  ⟨if_neg (by omega), if_neg (by omega), decide_eq_false (by omega)⟩
theorem p_of (s : ByteArray) (i : Int) (w : World) (hs : s.size ≤ 1000000000) :
    Calls Try.prog 6 #[.string s, .int .i64 i] w fun e w' => e = .returned (.tuple #[.int .i64 (lnOf s.data.toList i), .int .i64 (colOf s.data.toList i), .bool (isPl s.data.toList i)]) ∧ Below w.heap.size w w' := by
  by_cases h : 0 ≤ i ∧ i ≤ (s.size : Int)
  · obtain ⟨k, rfl⟩ : ∃ k : Nat, i = (k : Int) := ⟨i.toNat, by omega⟩
    have hk : k ≤ s.data.toList.length := by rw [length_of]; omega
    rw [lnOf_at hk, colOf_at hk, isPl_at hk]
    exact p_of_some s k w hs (by omega)
  · obtain ⟨h1, h2, h3⟩ := pl_off (l := s.data.toList) (i := i) (by rw [length_of]; omega)
    rw [h1, h2, h3]
    refine (p_of_none s i w hs (by omega)).mono ?_
    rintro e w1 ⟨rfl, rfl⟩
    exact ⟨rfl, Below.refl _ _⟩
/-- the chapter's text -/
def anb : ByteArray := ⟨#[97, 10, 98]⟩
theorem works_true (w : World) : Calls Try.prog 5 #[] w fun e w' => e = .returned (.bool true) ∧ Below w.heap.size w w' := by
  go_enter Try.func5, Try.ntmps5
  go_wp2_with fail
  refine (p_of_some anb 2 w (by decide) (by decide)).mono ?_
  rintro e w1 ⟨rfl, hb1⟩
  rw [show ((1 + nl anb.data.toList 2 : Nat) : Int) = 2 by decide, show ((2 - st anb.data.toList 2 + 1 : Nat) : Int) = 1 by decide]
  have HB1 := hidden hb1
  clear hb1
  go_wp2_with fail
  refine (p_at anb 2 1 w1 (by decide)).mono ?_
  rintro e w2 ⟨x, u, rfl, hA, hb2⟩
  have hx := AtIs.here (l := anb.data.toList) (p := 2) (by decide) (x := x) (u := u) (by rw [show (1 + (nl anb.data.toList 2 : Nat) : Int) = 2 by decide, show (((2 : Nat) : Int) - (st anb.data.toList 2 : Nat) + 1) = 1 by decide]; exact hA)
  obtain ⟨rfl, rfl⟩ := hx
  have HB2 := hidden hb2
  clear hb2 hA
  go_wp2_with fail
  refine (p_lines ⟨#[]⟩ w2 (by decide)).mono ?_
  rintro e w3 ⟨rfl, hb3⟩
  rw [show ((1 + nl (ByteArray.mk #[]).data.toList (ByteArray.mk #[]).size : Nat) : Int) = 1 by decide]
  have HB3 := hidden hb3
  clear hb3
  go_wp2_with fail
  go_ret
  exact ⟨rfl, HB1.out.trans ((HB2.out.mono HB1.out.size).trans (HB3.out.mono (Nat.le_trans HB1.out.size HB2.out.size)))⟩
end Go.Proofs.Ytbfejllcdalnhaa
