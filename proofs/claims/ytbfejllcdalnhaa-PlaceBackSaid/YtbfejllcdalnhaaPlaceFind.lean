/- The walk through find. -/
import Derived.Test.YtbfejllcdalnhaaPlaceSpec
import Derived.Test.YtbfejllcdalnhaaGenCell
import Derived.Test.YtbfejllcdalnhaaRows
import Derived.WalkKit
import Derived.WalkMore
namespace Go.Proofs.Ytbfejllcdalnhaa
open Go.RowKit
set_option linter.unusedVariables false

/-- a span's three cells -/
def trio (a b c : Nat) : Array Value := #[.int .i64 (a : Nat), .int .i64 (b : Nat), .int .i64 (c : Nat)]
/-- the two blocks that find makes -/
structure Two (w wr : World) (a b c : Nat) : Prop where
  out : Held wr w.heap.size 35 (trio 0 0 0)
  own : Held wr (w.heap.size + 1) 35 (trio a b c)
  bel : Below w.heap.size w wr
theorem Two.start (w : World) : Two w ((w.alloc (.cells (trio 0 0 0) 35)).alloc (.cells (trio 1 0 0) 35)) 1 0 0 := by
  refine ⟨(Held.new _ _ _).alloc _, ?_, ((Below.refl _ _).alloc (Nat.le_refl _) _).alloc (by simp) _⟩
  have := Held.new (w.alloc (.cells (trio 0 0 0) 35)) 35 (trio 1 0 0)
  simpa using this
theorem Two.set {w wr : World} {a b c : Nat} (h : Two w wr a b c) (i : Nat) (v : Value) (a' b' c' : Nat) (e : (trio a b c).setIfInBounds i v = trio a' b' c') : Two w (wr.setCell ⟨w.heap.size + 1, i, none⟩ v) a' b' c' :=
  ⟨h.out.off (by omega) _ _, e ▸ h.own.set i v, h.bel.setCell (Nat.le_succ _) _⟩
theorem Two.to {w wr : World} {a b c : Nat} (h : Two w wr a b c) (n : Nat) (v : Value) (e : v = .int .i64 (n : Int)) : Two w (wr.setCell ⟨w.heap.size + 1, 2, none⟩ v) a b n := h.set _ _ _ _ _ (by rw [e]; rfl)
theorem Two.next {w wr : World} {a b c : Nat} (h : Two w wr a b c) (m n : Nat) (u v : Value) (e : u = .int .i64 (m : Int)) (e' : v = .int .i64 (n : Int)) :
    Two w ((wr.setCell ⟨w.heap.size + 1, 0, none⟩ u).setCell ⟨w.heap.size + 1, 1, none⟩ v) m n c :=
  (h.set 0 u m b c (by rw [e]; rfl)).set 1 v m n c (by rw [e']; rfl)

theorem Two.cell0 {w wr : World} {a b c : Nat} (h : Two w wr a b c) : wr.cell? ⟨w.heap.size + 1, 0, none⟩ = some (.int .i64 (a : Int)) := h.own.at_ rfl
theorem Two.cell1 {w wr : World} {a b c : Nat} (h : Two w wr a b c) : wr.cell? ⟨w.heap.size + 1, 1, none⟩ = some (.int .i64 (b : Int)) := h.own.at_ rfl
theorem Two.cell2 {w wr : World} {a b c : Nat} (h : Two w wr a b c) : wr.cell? ⟨w.heap.size + 1, 2, none⟩ = some (.int .i64 (c : Int)) := h.own.at_ rfl
/-- the number that lies in cell i of find's own block -/
def lies (w wr : World) (i : Nat) : Nat := match wr.cell? ⟨w.heap.size + 1, i, none⟩ with | some v => (intOf v).toNat | none => 0
theorem Two.lies1 {w wr : World} {a b c : Nat} (h : Two w wr a b c) : lies w wr 1 = b := by unfold lies; rw [h.cell1]; exact Int.toNat_natCast b
theorem Two.lies2 {w wr : World} {a b c : Nat} (h : Two w wr a b c) : lies w wr 2 = c := by unfold lies; rw [h.cell2]; exact Int.toNat_natCast c
/-- what is told: the own block's cells, put into the other one -/
theorem Two.tell {w wr : World} {a b c : Nat} (h : Two w wr a b c) : ∃ W', W' = ((wr.setCell ⟨w.heap.size, 0, none⟩ (.int .i64 (a : Int))).setCell ⟨w.heap.size, 1, none⟩ (.int .i64 (b : Int))).setCell ⟨w.heap.size, 2, none⟩ (.int .i64 (c : Int)) ∧ Held W' w.heap.size 35 (trio a b c) ∧ Below w.heap.size w W' :=
  ⟨_, rfl, ((h.out.set 0 _).set 1 _).set 2 _, ((h.bel.setCell (Nat.le_refl _) _).setCell (Nat.le_refl _) _).setCell (Nat.le_refl _) _⟩
set_option maxRecDepth 100000 in
theorem find_any (s : ByteArray) (line : Int) (w : World) (hs : s.size ≤ 1000000000) :
    Calls Try.prog 13 #[.string s, .int .i64 line] w fun e w' => ∃ t : Nat, e = .returned (.agg (trio (1 + nl s.data.toList t) (st s.data.toList t) t)) ∧ Found s.data.toList line t ∧ Below w.heap.size w w' := by
  obtain ⟨l, hl⟩ : ∃ l, l = s.data.toList := ⟨_, rfl⟩
  have hlen : l.length = s.size := by rw [hl]; exact Array.length_toList
  have HLEN := hidden hlen
  rw [← hl]
  have HL := hidden hl
  clear hl hlen
  go_enter Try.func13, Try.ntmps13
  go_wp2_with fail
  go_step3
  go_wp2_with fail
  go_step3
  go_wp2_with fail
  go_loopw [] (fun wr => ∃ f c n : Nat, Hid (n = 1 + nl l f) ∧ Hid (f ≤ s.size) ∧ Hid (st l f = f) ∧ Hid ((n : Int) ≤ line ∨ n = 1) ∧ Hid (Two w wr n f c)) (fun wr => s.size + 1 - lies w wr 1)
  case atStart => exact ⟨0, 0, 1, rfl, Nat.zero_le _, rfl, .inr rfl, Two.start w⟩
  case round =>
    obtain ⟨f, c, n, hn, hf, hsf, hln, hT⟩ := hrel
    have hnb : n ≤ 1000000001 := by have := hn.out; have := hf.out; have := nl_le l f; omega
    have h0 := hT.out.cell0
    have h1 := hT.out.cell1
    have h2 := hT.out.cell2
    have z2 := hT.out.own.frozen 2
    go_wp2_with fail
    clear h0 h1 h2 z2
    obtain ⟨wo, rfl⟩ : ∃ wo, wo = wr := ⟨_, rfl⟩
    go_loopw [] (fun wr => ∃ t : Nat, Hid (f ≤ t) ∧ t ≤ s.size ∧ Hid (nl l t = nl l f) ∧ Hid (st l t = f) ∧ Hid (Two w wr n f t)) (fun wr => s.size - lies w wr 2)
    case atStart => exact ⟨f, Nat.le_refl _, hf.out, rfl, hsf, hT.out.to f _ rfl⟩
    case round =>
      obtain ⟨t, hft, hts, hnl, hst, hT'⟩ := hrel
      have h0 := hT'.out.cell0
      have h1 := hT'.out.cell1
      have h2 := hT'.out.cell2
      have z0 := hT'.out.own.frozen 0
      have z1 := hT'.out.own.frozen 1
      have z2 := hT'.out.own.frozen 2
      have x0 : wr.cell? ⟨w.heap.size, 0, none⟩ = some (.int .i64 ((0 : Nat) : Int)) := hT'.out.out.at_ rfl
      have x1 : wr.cell? ⟨w.heap.size, 1, none⟩ = some (.int .i64 ((0 : Nat) : Int)) := hT'.out.out.at_ rfl
      have x2 : wr.cell? ⟨w.heap.size, 2, none⟩ = some (.int .i64 ((0 : Nat) : Int)) := hT'.out.out.at_ rfl
      have y0 := hT'.out.out.frozen 0
      have y1 := hT'.out.out.frozen 1
      have y2 := hT'.out.out.frozen 2
      by_cases hlt : t < s.size
      · have hb := bt_of HL.out hlt
        by_cases h10 : bt l t = 10
        · have ht10 : ((s[t].toNat : Int) != 10) = false := by rw [← hb, h10]; rfl
          have H10 := hidden h10
          clear hb h10
          by_cases hge : line ≤ (n : Int)
          · go_wp2_with fail
            obtain ⟨W', hW', hH, hBel⟩ := hT'.out.tell
            rw [← hW']
            have c0 : W'.cell? ⟨w.heap.size, 0, none⟩ = some (.int .i64 (n : Int)) := hH.at_ rfl
            have c1 : W'.cell? ⟨w.heap.size, 1, none⟩ = some (.int .i64 (f : Int)) := hH.at_ rfl
            have c2 : W'.cell? ⟨w.heap.size, 2, none⟩ = some (.int .i64 (t : Int)) := hH.at_ rfl
            clear hW' hH
            try rw [Exit.noGoto_ret]
            exact bodyPost_ret (v := .agg #[.int .i64 (n : Int), .int .i64 (f : Int), .int .i64 (t : Int)]) (by simp [results, Try.results13, go_sem, c0, c1, c2]) rfl ⟨t, by rw [hn.out, hst.out, hnl.out]; rfl, ⟨.inr H10.out, .inr (by have := hn.out; have := hnl.out; omega), by have := hn.out; have := hnl.out; have := hln.out; omega⟩, hBel⟩
          · go_wp2_with fail
            refine ⟨⟨t + 1, t, n + 1, ?_, ?_, ?_, ?_, ?_⟩, ?_⟩
            · show n + 1 = 1 + nl l (t + 1)
              rw [nl_hit H10.out, hnl.out, hn.out]; omega
            · show t + 1 ≤ s.size
              omega
            · exact st_hit H10.out
            · show ((n + 1 : Nat) : Int) ≤ line ∨ n + 1 = 1
              omega
            · exact hT'.out.next (n + 1) (t + 1) _ _ (by go_num) (by go_num)
            · rw [(hT'.out.next (n + 1) (t + 1) _ _ (by go_num) (by go_num)).lies1, hT.out.lies1]
              have := hft.out
              omega
        · have ht10 : ((s[t].toNat : Int) != 10) = true := by
            rw [← hb]
            simp
            omega
          have H10 := hidden h10
          clear hb h10
          go_wp2_with fail
          refine ⟨⟨t + 1, ?_, ?_, ?_, ?_, ?_⟩, ?_⟩
          · show f ≤ t + 1
            have := hft.out
            omega
          · omega
          · show nl l (t + 1) = nl l f
            rw [nl_miss H10.out, hnl.out]
          · show st l (t + 1) = f
            rw [st_miss H10.out, hst.out]
          · exact hT'.out.to (t + 1) _ (by go_num)
          · rw [(hT'.out.to (t + 1) _ (by go_num)).lies2, hT'.out.lies2]
            omega
      · go_wp2_with fail
        obtain ⟨W', hW', hH, hBel⟩ := hT'.out.tell
        rw [← hW']
        have c0 : W'.cell? ⟨w.heap.size, 0, none⟩ = some (.int .i64 (n : Int)) := hH.at_ rfl
        have c1 : W'.cell? ⟨w.heap.size, 1, none⟩ = some (.int .i64 (f : Int)) := hH.at_ rfl
        have c2 : W'.cell? ⟨w.heap.size, 2, none⟩ = some (.int .i64 (t : Int)) := hH.at_ rfl
        clear hW' hH
        try rw [Exit.noGoto_ret]
        exact bodyPost_ret (v := .agg #[.int .i64 (n : Int), .int .i64 (f : Int), .int .i64 (t : Int)]) (by simp [results, Try.results13, go_sem, c0, c1, c2]) rfl ⟨t, by rw [hn.out, hst.out, hnl.out]; rfl, ⟨.inl (by rw [HLEN.out]; omega), .inl (by rw [HLEN.out]; omega), by have := hn.out; have := hnl.out; have := hln.out; omega⟩, hBel⟩
end Go.Proofs.Ytbfejllcdalnhaa
