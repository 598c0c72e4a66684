/- The walk through Parse. -/
import Derived.Test.YtnmeijcaaohnpaaDoorExprChain
import Derived.Test.YtnmeijcaaohnpaaDoorExprTree
namespace Go.Proofs.YtnmeijcaaohnpaaDoor
open Go.RowKit
set_option linter.unusedVariables false

/-- what Parse makes of what is read -/
def parsed (v : Out) : Except Flt (List Nd) := match v with
  | .error f => .error f
  | .ok (_, s) => if s.tok.kind = 0 then .ok s.l else .error (8, s.tok.place)
/-- nodes that were told -/
def Given (w w' : World) (v : Value) (l : List Nd) : Prop := ∃ l', w'.ownsRow w.heap.size 37 5 v l'.length (ndCells l') ∧ l'.map bare = l ∧ ∀ x ∈ l', Now w.heap.size w' (kidV x) x.kids
def Parsed (L : List Tk) (w : World) (en : Ending) (w' : World) : Prop :=
  ∃ v, Reads (.chain 0) 0 ⟨L, [], []⟩ v ∧ Below w.heap.size w w' ∧
    ((∃ l val, parsed v = .ok l ∧ en = .returned (.tuple #[val, .agg #[.int .i64 0, .int .i64 0]]) ∧ Given w w' val l) ∨
     (∃ x q : Nat, parsed v = .error (x, q) ∧ x ≠ 0 ∧ en = .returned (.tuple #[.slice none 0 0, .agg #[.int .i64 (x : Int), .int .i64 (q : Int)]])))
variable {B g : Nat} {L : List Tk} {w : World} {R : Bx} {d : Nat} {s : PS} {f : Flt}
theorem b_fault (H : Bad B g L w R d f) :
    Calls Tryd.prog 21 #[.pointer (some ⟨g, 0, none⟩)] w fun en w' => en = .returned (.agg #[.int .i64 (f.1 : Int), .int .i64 (f.2 : Int)]) ∧ Below w.heap.size w w' := by
  obtain ⟨p, l, h, H, _⟩ := H
  exact fault_any H
theorem b_isWrong (H : Bad B g L w R d f) :
    Calls Tryd.prog 20 #[.pointer (some ⟨g, 0, none⟩)] w fun en w' => en = .returned (.bool true) ∧ w' = w := by
  obtain ⟨p, l, h, H, hf⟩ := H
  exact isWrong_bad H (by omega)
theorem g_isWrong (H : Good B g L w R d s) :
    Calls Tryd.prog 20 #[.pointer (some ⟨g, 0, none⟩)] w fun en w' => en = .returned (.bool false) ∧ w' = w := by
  obtain ⟨p, l, H, _⟩ := H
  exact isWrong_ok H
theorem b_fail (x a : Nat) (hx : x ≠ 0) (H : Bad B g L w R d f) :
    Calls Tryd.prog 19 #[.pointer (some ⟨g, 0, none⟩), .int .i64 (x : Int), .int .i64 (a : Int)] w fun en w' => (∃ v, en = .returned v) ∧ w' = w := by
  obtain ⟨p, l, h, H, hf⟩ := H
  exact fail_bad _ _ H (by omega) (by omega)
theorem g_tree (H : Good B g L w R d s) (hl : 0 < s.l.length) (hk : ∀ x ∈ s.l, x.kids.length ≤ 100) :
    Calls Tryd.prog 22 #[.pointer (some ⟨g, 0, none⟩)] w fun en w' => ∃ v, en = .returned v ∧ Given w w' v s.l ∧ Below w.heap.size w w' := by
  obtain ⟨p, l, H, _, hls⟩ := H
  refine (tree_any H (by rw [hls, List.length_map] at hl; exact hl) (fun x hx => hk (bare x) (by rw [hls]; exact List.mem_map_of_mem hx))).mono ?_
  rintro en w' ⟨v, l', h1, h2, h3, h4, h5⟩
  have hlen : l'.length = l.length := by have := congrArg List.length h3; simpa using this
  exact ⟨v, h1, ⟨l', by rw [hlen]; exact h2, by rw [hls]; exact h3, h4⟩, h5⟩
theorem Given.base {w0 w w' : World} {v : Value} {l : List Nd} (h : Given w w' v l) (hb : w0.heap.size ≤ w.heap.size) : Given w0 w' v l := by
  obtain ⟨l', h1, h2, h3⟩ := h
  exact ⟨l', own_base h1 hb, h2, fun x hx => own_base (h3 x hx) hb⟩
theorem Given.below {w w1 w' : World} {v : Value} {l : List Nd} (h : Given w w1 v l) (hb : Below w1.heap.size w1 w') : Given w w' v l := by
  obtain ⟨l', h1, h2, h3⟩ := h
  exact ⟨l', own_below h1 hb, h2, fun x hx => own_below (h3 x hx) hb⟩
set_option maxRecDepth 100000 in
set_option maxHeartbeats 4000000 in
theorem parse_any {L : List Tk} (b off c : Nat) (w : World) (hT : XTabs w) (hL : IsL L) (hk : Toks w b off L) (hb : b < w.heap.size) (hS : ∀ l s', Reads (.chain 0) 0 ⟨L, [], []⟩ (.ok (l, s')) → 0 < s'.l.length ∧ ∀ x ∈ s'.l, x.kids.length ≤ 100) :
    Calls Tryd.prog 8 #[.slice (some ⟨b, off, none⟩) L.length c] w (Parsed L w) := by
  obtain ⟨W, hW⟩ : ∃ W, W = w.alloc (.cells #[.int .i64 0, .int .i64 0] 26) := ⟨_, rfl⟩
  obtain ⟨A, hA⟩ : ∃ A, A = w.heap.size := ⟨_, rfl⟩
  have HG : Hid (Held W A 26 #[.int .i64 0, .int .i64 0]) := by rw [hW, hA]; exact Held.new _ _ _
  have HB : Hid (Below w.heap.size w W) := by rw [hW]; exact (Below.refl _ _).alloc (Nat.le_refl _) _
  have HAL : Hid (w.heap.size ≤ A) := by rw [hA]; exact Nat.le_refl _
  have HNEW := hidden (new_any (L := L) b off c W (hT.keep (fun k hk => HB.out.block k (by have := hT.size; omega))) hL (hk.block (HB.out.block b hb)))
  have HS := hidden hS
  clear hT hL hk hb hS
  go_enter Tryd.func8, Tryd.ntmps8
  rw [veil 1, veil 4, veil 7, veil 8]
  go_wp2_with fail
  rw [← hW, ← hA]
  clear hW hA
  refine wp_veil ?_
  go_wp2_with fail
  refine HNEW.out.mono ?_
  rintro en w1 ⟨g, R, rfl, hR, hb1⟩
  have HGD : Hid (Good W.heap.size g L w1 R 0 ⟨L, [], []⟩) := ⟨0, [], hR, rfl, rfl⟩
  have HBW := hidden hb1
  clear hR hb1
  go_wp2_with fail
  refine (expr_good HGD.out (by omega)).mono ?_
  rintro en w2 ⟨v, hrd, R2, hf, hz, hv⟩
  have HRD := hidden hrd
  replace HBW := hidden (HBW.out.trans (HGD.out.base hf))
  clear hrd hf hz
  rcases hv with ⟨k, s1, rfl, rfl, hg⟩ | ⟨f, rfl, rfl, hg⟩
  · have HG2 := hidden hg
    clear hg
    go_wp2_with fail
    have hTK := g_token HG2.out
    obtain ⟨K, hK⟩ : ∃ K, K = s1.tok.kind := ⟨_, rfl⟩
    obtain ⟨X, hX⟩ : ∃ X : ByteArray, X = ⟨s1.tok.text.toArray⟩ := ⟨_, rfl⟩
    obtain ⟨N, hN⟩ : ∃ N, N = s1.tok.n := ⟨_, rfl⟩
    obtain ⟨P, hP⟩ : ∃ P, P = s1.tok.place := ⟨_, rfl⟩
    rw [← hK, ← hX, ← hN, ← hP] at hTK
    have HK := hidden hK
    have HP := hidden hP
    clear hK hX hN hP
    refine hTK.mono ?_
    rintro en w3 ⟨rfl, hb⟩
    replace HG2 := hidden (HG2.out.below hb)
    replace HBW := hidden (HBW.out.trans (hb.mono HBW.out.size))
    clear hb hTK
    go_wp2_with fail
    obtain ⟨W4, hW4⟩ : ∃ W4, W4 = w3.alloc (.cells #[.int .i64 (K : Int), .string X, .int .i64 (N : Int), .int .i64 (P : Int)] 31) := ⟨_, rfl⟩
    obtain ⟨G, hG⟩ : ∃ G, G = w3.heap.size := ⟨_, rfl⟩
    have HGT : Hid (Held W4 G 31 #[.int .i64 (K : Int), .string X, .int .i64 (N : Int), .int .i64 (P : Int)]) := by rw [hW4, hG]; exact Held.new _ _ _
    have hb4 : Below w3.heap.size w3 W4 := by rw [hW4]; exact (Below.refl _ _).alloc (Nat.le_refl _) _
    replace HG2 := hidden (HG2.out.below hb4)
    replace HBW := hidden (HBW.out.trans (hb4.mono HBW.out.size))
    rw [← hW4, ← hG]
    clear hW4 hG hb4
    refine wp_veil ?_
    have z0 := HGT.out.t0
    have z3 := HGT.out.t3
    by_cases hk0 : K = 0
    · subst hk0
      have HOK : Hid (parsed (.ok ([k], s1)) = .ok s1.l) := if_pos HK.out.symm
      go_wp2_with fail
      refine (g_isWrong HG2.out).mono ?_
      rintro en w5 ⟨rfl, hw5⟩
      rw [hw5]; clear hw5 w5
      go_wp2_with fail
      refine wp_veil ?_
      go_wp2_with fail
      refine (g_tree HG2.out (HS.out _ _ HRD.out).1 (HS.out _ _ HRD.out).2).mono ?_
      rintro en w5 ⟨val, rfl, hgv, hb⟩
      have HBW5 := hidden (HBW.out.trans (hb.mono HBW.out.size))
      have HGV := hidden hgv
      have HH5 := hidden (HG.out.since HBW5.out)
      have HSZ : Hid (w.heap.size ≤ W4.heap.size) := by have h1 := HB.out.size; have h2 := HBW.out.size; show _ ≤ _; omega
      have hBA := HB.out.trans (HBW5.out.mono HB.out.size)
      have HBA := hidden hBA
      clear hb hgv hBA
      have y0 : w5.cell? ⟨A, 0, none⟩ = some (.int .i64 0) := HH5.out.at_ rfl
      have y1 : w5.cell? ⟨A, 1, none⟩ = some (.int .i64 0) := HH5.out.at_ rfl
      have f0 := HH5.out.frozen 0
      have f1 := HH5.out.frozen 1
      go_wp2_with fail
      obtain ⟨W', hW', hH, hBel⟩ := two_told HH5.out HBA.out HAL.out (.int .i64 0) (.int .i64 0)
      have hgr : Given w W' val s1.l := by
        obtain ⟨l', h1, h2, h3⟩ := HGV.out.base HSZ.out
        have gr1 := grown_setCell w5 A 0 (.int .i64 0)
        have gr2 := grown_setCell (w5.setCell ⟨A, 0, none⟩ (.int .i64 0)) A 1 (.int .i64 0)
        have hx1 := HH5.out.set 0 (.int .i64 0)
        refine ⟨l', ?_, h2, fun x hx => ?_⟩
        · have k1 := World.ownsRow.kept h1 gr1 (.inr (own_ne h1 HH5.out (by decide)))
          rw [hW']
          exact World.ownsRow.kept k1 gr2 (.inr (own_ne k1 hx1 (by decide)))
        · have k1 := World.ownsRow.kept (h3 x hx) gr1 (.inr (own_ne (h3 x hx) HH5.out (by decide)))
          rw [hW']
          exact World.ownsRow.kept k1 gr2 (.inr (own_ne k1 hx1 (by decide)))
      rw [← hW']
      have x0 : W'.cell? ⟨A, 0, none⟩ = some (.int .i64 0) := hH.at_ rfl
      have x1 : W'.cell? ⟨A, 1, none⟩ = some (.int .i64 0) := hH.at_ rfl
      clear hW' hH
      exact bodyPost_ret (v := .tuple #[val, .agg #[.int .i64 0, .int .i64 0]]) (by simp [results, Tryd.results8, go_sem, x0, x1]) rfl ⟨_, HRD.out, hBel, .inl ⟨_, val, HOK.out, rfl, hgr⟩⟩
    · have hk1 : ((K : Int) != 0) = true := by simp; omega
      have HBD : Hid (parsed (.ok ([k], s1)) = .error (8, P)) := by show _ = _; rw [HP.out]; exact if_neg (by rw [← HK.out]; exact hk0)
      go_wp2_with fail
      refine (g_fail 8 P (by decide) HG2.out).mono ?_
      rintro en w5 ⟨⟨v, rfl⟩, hg, hf⟩
      have HX := hidden hg
      replace HBW := hidden (HBW.out.trans (HG2.out.base hf))
      clear hg hf z0 z3
      go_wp2_with fail
      refine (b_isWrong HX.out).mono ?_
      rintro en w6 ⟨rfl, hw6⟩
      rw [hw6]; clear hw6 w6
      go_wp2_with fail
      refine wp_veil ?_
      go_wp2_with fail
      refine (b_fault HX.out).mono ?_
      rintro en w6 ⟨rfl, hb⟩
      replace HBW := hidden (HBW.out.trans (hb.mono HBW.out.size))
      have HH5 := hidden (HG.out.since HBW.out)
      have HBA := hidden (HB.out.trans (HBW.out.mono HB.out.size))
      clear hb
      have y0 : w6.cell? ⟨A, 0, none⟩ = some (.int .i64 0) := HH5.out.at_ rfl
      have y1 : w6.cell? ⟨A, 1, none⟩ = some (.int .i64 0) := HH5.out.at_ rfl
      have f0 := HH5.out.frozen 0
      have f1 := HH5.out.frozen 1
      go_wp2_with fail
      obtain ⟨W', hW', hH, hBel⟩ := two_told HH5.out HBA.out HAL.out (.int .i64 8) (.int .i64 (P : Int))
      rw [← hW']
      have x0 : W'.cell? ⟨A, 0, none⟩ = some (.int .i64 8) := hH.at_ rfl
      have x1 : W'.cell? ⟨A, 1, none⟩ = some (.int .i64 (P : Int)) := hH.at_ rfl
      clear hW' hH
      exact bodyPost_ret (v := .tuple #[.slice none 0 0, .agg #[.int .i64 8, .int .i64 (P : Int)]]) (by simp [results, Tryd.results8, go_sem, x0, x1]) rfl ⟨_, HRD.out, hBel, .inr ⟨8, P, HBD.out, by decide, rfl⟩⟩
  · obtain ⟨fx, fq⟩ := f
    have HX := hidden hg
    have HNZ : Hid (fx ≠ 0) := by obtain ⟨_, _, _, _, h⟩ := hg; exact h
    clear hg
    go_wp2_with fail
    refine (b_token HX.out).mono ?_
    rintro en w3 ⟨K, N, P, X, rfl, hb⟩
    replace HX := hidden (HX.out.below hb)
    replace HBW := hidden (HBW.out.trans (hb.mono HBW.out.size))
    clear hb
    go_wp2_with fail
    obtain ⟨W4, hW4⟩ : ∃ W4, W4 = w3.alloc (.cells #[.int .i64 (K : Int), .string X, .int .i64 (N : Int), .int .i64 (P : Int)] 31) := ⟨_, rfl⟩
    obtain ⟨G, hG⟩ : ∃ G, G = w3.heap.size := ⟨_, rfl⟩
    have HGT : Hid (Held W4 G 31 #[.int .i64 (K : Int), .string X, .int .i64 (N : Int), .int .i64 (P : Int)]) := by rw [hW4, hG]; exact Held.new _ _ _
    have hb4 : Below w3.heap.size w3 W4 := by rw [hW4]; exact (Below.refl _ _).alloc (Nat.le_refl _) _
    replace HX := hidden (HX.out.below hb4)
    replace HBW := hidden (HBW.out.trans (hb4.mono HBW.out.size))
    rw [← hW4, ← hG]
    clear hW4 hG hb4
    refine wp_veil ?_
    have z0 := HGT.out.t0
    have z3 := HGT.out.t3
    have HTAIL : Hid (∀ V : World, V = W4 → True) := fun _ _ => trivial
    by_cases hk0 : K = 0
    · subst hk0
      go_wp2_with fail
      refine (b_isWrong HX.out).mono ?_
      rintro en w6 ⟨rfl, hw6⟩
      rw [hw6]; clear hw6 w6
      go_wp2_with fail
      refine wp_veil ?_
      go_wp2_with fail
      refine (b_fault HX.out).mono ?_
      rintro en w6 ⟨rfl, hb⟩
      replace HBW := hidden (HBW.out.trans (hb.mono HBW.out.size))
      have HH5 := hidden (HG.out.since HBW.out)
      have HBA := hidden (HB.out.trans (HBW.out.mono HB.out.size))
      clear hb
      have y0 : w6.cell? ⟨A, 0, none⟩ = some (.int .i64 0) := HH5.out.at_ rfl
      have y1 : w6.cell? ⟨A, 1, none⟩ = some (.int .i64 0) := HH5.out.at_ rfl
      have f0 := HH5.out.frozen 0
      have f1 := HH5.out.frozen 1
      go_wp2_with fail
      obtain ⟨W', hW', hH, hBel⟩ := two_told HH5.out HBA.out HAL.out (.int .i64 (fx : Int)) (.int .i64 (fq : Int))
      rw [← hW']
      have x0 : W'.cell? ⟨A, 0, none⟩ = some (.int .i64 (fx : Int)) := hH.at_ rfl
      have x1 : W'.cell? ⟨A, 1, none⟩ = some (.int .i64 (fq : Int)) := hH.at_ rfl
      clear hW' hH
      exact bodyPost_ret (v := .tuple #[.slice none 0 0, .agg #[.int .i64 (fx : Int), .int .i64 (fq : Int)]]) (by simp [results, Tryd.results8, go_sem, x0, x1]) rfl ⟨_, HRD.out, hBel, .inr ⟨fx, fq, rfl, HNZ.out, rfl⟩⟩
    · have hk1 : ((K : Int) != 0) = true := by simp; omega
      go_wp2_with fail
      refine (b_fail 8 P (by decide) HX.out).mono ?_
      rintro en w6 ⟨⟨v, rfl⟩, hw6⟩
      rw [hw6]; clear hw6 w6
      go_wp2_with fail
      refine (b_isWrong HX.out).mono ?_
      rintro en w6 ⟨rfl, hw6⟩
      rw [hw6]; clear hw6 w6
      go_wp2_with fail
      refine wp_veil ?_
      go_wp2_with fail
      refine (b_fault HX.out).mono ?_
      rintro en w6 ⟨rfl, hb⟩
      replace HBW := hidden (HBW.out.trans (hb.mono HBW.out.size))
      have HH5 := hidden (HG.out.since HBW.out)
      have HBA := hidden (HB.out.trans (HBW.out.mono HB.out.size))
      clear hb
      have y0 : w6.cell? ⟨A, 0, none⟩ = some (.int .i64 0) := HH5.out.at_ rfl
      have y1 : w6.cell? ⟨A, 1, none⟩ = some (.int .i64 0) := HH5.out.at_ rfl
      have f0 := HH5.out.frozen 0
      have f1 := HH5.out.frozen 1
      go_wp2_with fail
      obtain ⟨W', hW', hH, hBel⟩ := two_told HH5.out HBA.out HAL.out (.int .i64 (fx : Int)) (.int .i64 (fq : Int))
      rw [← hW']
      have x0 : W'.cell? ⟨A, 0, none⟩ = some (.int .i64 (fx : Int)) := hH.at_ rfl
      have x1 : W'.cell? ⟨A, 1, none⟩ = some (.int .i64 (fq : Int)) := hH.at_ rfl
      clear hW' hH
      exact bodyPost_ret (v := .tuple #[.slice none 0 0, .agg #[.int .i64 (fx : Int), .int .i64 (fq : Int)]]) (by simp [results, Tryd.results8, go_sem, x0, x1]) rfl ⟨_, HRD.out, hBel, .inr ⟨fx, fq, rfl, HNZ.out, rfl⟩⟩
end Go.Proofs.YtnmeijcaaohnpaaDoor
