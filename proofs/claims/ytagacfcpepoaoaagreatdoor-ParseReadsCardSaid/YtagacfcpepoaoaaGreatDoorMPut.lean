/- ExprClone, ExprPut, ExprGood, in one text. -/
import Derived.Test.YtagacfcpepoaoaaGreatDoorMLeaf
import Derived.Lib.Walk
import Derived.Lib.SliceRun
import Derived.Deep.RegionLaw
import Derived.Deep.AppendLies
namespace Go.Proofs.YtagacfcpepoaoaaGreatDoor
open Go.RowKit
set_option linter.unusedVariables false

theorem infoT : (Tryz.prog.info? 49).map (fun i => (i.zero, i.size, i.bytes)) = some (some (.agg #[.int .i64 0, .string ⟨#[]⟩, .int .i64 0, .int .i64 0]), 4, 40) := by kernel_rfl
set_option maxRecDepth 100000 in
theorem clone_int_some (b off n c : Nat) (xs : List Value) (w : World) (hl : xs.length = n * 1) (hn : n ≤ 1000000) (hx : ∀ j u, xs[j]? = some u → w.cell? ⟨b, off + j, none⟩ = some u) (h1 : ∀ u ∈ xs, u.oneCell' = true) :
    Calls Tryz.prog 46 #[.slice (some ⟨b, off, none⟩) n c] w fun e w' => ∃ v', e = .returned v' ∧ w'.ownsRow w.heap.size 3 1 v' n xs ∧ v' ≠ .slice none 0 0 ∧ Below w.heap.size w w' := by
  obtain ⟨i0, hi, hz0, hz1, hz2⟩ := info_parts infoI
  have qq : ∀ (w : World) (a : Option Addr) (n c n' c' : Nat), (binOp .eql 45 (.slice a n c) (.slice none n' c')).run Tryz.prog w = .ok (.bool a.isNone) w := fun w a n c n' c' => Lib.run_eql_slice_nil w _ _ a n c n' c' Tryz.underlying45
  have HX := hidden hx
  have HL := hidden hl
  have HO := hidden h1
  clear hx hl h1
  go_enter Tryz.func46, Tryz.ntmps46
  go_wp2_with (at_builtin; refine wpList_append_own _ rfl _ _ 45 rfl w.heap.size 3 i0 (.int .i64 0) 1 8 Tryz.underlying45 hi hz0 hz1 hz2 rfl (by decide) _ _ _ rfl (World.ownsRow_made w #[] 0 (Nat.le_refl _) (Nat.zero_le _) rfl) ⟨b, off, none⟩ n c xs rfl ?qc1 ?qc2 ?qc3 ?qc4 ?qc5 ?qc6 ?_)
  case qc1 => exact HL.out
  case qc2 =>
    intro j u hj
    rw [Addr.add_lit]
    exact Lib.cell?_alloc_some _ (HX.out j u hj)
  case qc3 => exact HO.out
  case qc4 => unfold maxLen; omega
  case qc5 => omega
  case qc6 => simp
  intro v' w1 hown hgrow hnil
  go_wp2
  go_ret
  refine ⟨v', rfl, by simpa using hown, ?_, ?_⟩
  · exact hnil
  · exact ((Below.refl _ w).alloc (Nat.le_refl _) _).grown hgrow (by simp) (by intro k hk; simp [Value.ownBlock] at hk; omega)
theorem clone_int_nil (n c : Nat) (w : World) :
    Calls Tryz.prog 46 #[.slice none n c] w fun e w' => e = .returned (.slice none 0 0) ∧ w' = w := by
  have qq : ∀ (w : World) (a : Option Addr) (n c n' c' : Nat), (binOp .eql 45 (.slice a n c) (.slice none n' c')).run Tryz.prog w = .ok (.bool a.isNone) w := fun w a n c n' c' => Lib.run_eql_slice_nil w _ _ a n c n' c' Tryz.underlying45
  go_enter Tryz.func46, Tryz.ntmps46
  go_wp2
  go_ret
  exact ⟨rfl, rfl⟩
theorem clone_int {B n : Nat} {v : Value} {xs : List Value} (w : World) (H : w.ownsRow B 3 1 v n xs) (hn : n ≤ 1000000) (h1 : ∀ u ∈ xs, u.oneCell' = true) :
    Calls Tryz.prog 46 #[v] w fun e w' => ∃ v', e = .returned v' ∧ w'.ownsRow w.heap.size 3 1 v' n xs ∧ Below w.heap.size w w' := by
  rcases H.2 with ⟨rfl, rfl⟩ | ⟨g, cap, cur, rfl, _⟩
  · refine (clone_int_nil 0 0 w).mono ?_
    rintro e w' ⟨rfl, rfl⟩
    exact ⟨_, rfl, ⟨H.1, .inl ⟨rfl, rfl⟩⟩, Below.refl _ _⟩
  · refine (clone_int_some g 0 n cap xs w H.1 hn (fun j u hj => ?_) h1).mono ?_
    · have := H.cells (g := g) rfl j u hj
      rw [add_zero_at] at this
      rw [Nat.zero_add]
      exact this
    · rintro e w' ⟨v', rfl, h2, _, h3⟩
      exact ⟨_, rfl, h2, h3⟩
set_option maxRecDepth 100000 in
theorem clone_tok_some (b off n c : Nat) (xs : List Value) (w : World) (hl : xs.length = n * 4) (hn : n ≤ 1000000) (hx : ∀ j u, xs[j]? = some u → w.cell? ⟨b, off + j, none⟩ = some u) (h1 : ∀ u ∈ xs, u.oneCell' = true) :
    Calls Tryz.prog 62 #[.slice (some ⟨b, off, none⟩) n c] w fun e w' => ∃ v', e = .returned v' ∧ w'.ownsRow w.heap.size 49 4 v' n xs ∧ v' ≠ .slice none 0 0 ∧ Below w.heap.size w w' := by
  obtain ⟨i0, hi, hz0, hz1, hz2⟩ := info_parts infoT
  have qq : ∀ (w : World) (a : Option Addr) (n c n' c' : Nat), (binOp .eql 33 (.slice a n c) (.slice none n' c')).run Tryz.prog w = .ok (.bool a.isNone) w := fun w a n c n' c' => Lib.run_eql_slice_nil w _ _ a n c n' c' Tryz.underlying33
  have HX := hidden hx
  have HL := hidden hl
  have HO := hidden h1
  clear hx hl h1
  go_enter Tryz.func62, Tryz.ntmps62
  go_wp2_with (at_builtin; refine wpList_append_own _ rfl _ _ 33 rfl w.heap.size 49 i0 (.agg #[.int .i64 0, .string ⟨#[]⟩, .int .i64 0, .int .i64 0]) 4 40 Tryz.underlying33 hi hz0 hz1 hz2 rfl (by decide) _ _ _ rfl (World.ownsRow_made w #[] 0 (Nat.le_refl _) (Nat.zero_le _) rfl) ⟨b, off, none⟩ n c xs rfl ?qc1 ?qc2 ?qc3 ?qc4 ?qc5 ?qc6 ?_)
  case qc1 => exact HL.out
  case qc2 =>
    intro j u hj
    rw [Addr.add_lit]
    exact Lib.cell?_alloc_some _ (HX.out j u hj)
  case qc3 => exact HO.out
  case qc4 => unfold maxLen; omega
  case qc5 => omega
  case qc6 => simp
  intro v' w1 hown hgrow hnil
  go_wp2
  go_ret
  refine ⟨v', rfl, by simpa using hown, ?_, ?_⟩
  · exact hnil
  · exact ((Below.refl _ w).alloc (Nat.le_refl _) _).grown hgrow (by simp) (by intro k hk; simp [Value.ownBlock] at hk; omega)
theorem clone_tok_nil (n c : Nat) (w : World) :
    Calls Tryz.prog 62 #[.slice none n c] w fun e w' => e = .returned (.slice none 0 0) ∧ w' = w := by
  have qq : ∀ (w : World) (a : Option Addr) (n c n' c' : Nat), (binOp .eql 33 (.slice a n c) (.slice none n' c')).run Tryz.prog w = .ok (.bool a.isNone) w := fun w a n c n' c' => Lib.run_eql_slice_nil w _ _ a n c n' c' Tryz.underlying33
  go_enter Tryz.func62, Tryz.ntmps62
  go_wp2
  go_ret
  exact ⟨rfl, rfl⟩
theorem clone_tok {B n : Nat} {v : Value} {xs : List Value} (w : World) (H : w.ownsRow B 49 4 v n xs) (hn : n ≤ 1000000) (h1 : ∀ u ∈ xs, u.oneCell' = true) :
    Calls Tryz.prog 62 #[v] w fun e w' => ∃ v', e = .returned v' ∧ w'.ownsRow w.heap.size 49 4 v' n xs ∧ Below w.heap.size w w' := by
  rcases H.2 with ⟨rfl, rfl⟩ | ⟨g, cap, cur, rfl, _⟩
  · refine (clone_tok_nil 0 0 w).mono ?_
    rintro e w' ⟨rfl, rfl⟩
    exact ⟨_, rfl, ⟨H.1, .inl ⟨rfl, rfl⟩⟩, Below.refl _ _⟩
  · refine (clone_tok_some g 0 n cap xs w H.1 hn (fun j u hj => ?_) h1).mono ?_
    · have := H.cells (g := g) rfl j u hj
      rw [add_zero_at] at this
      rw [Nat.zero_add]
      exact this
    · rintro e w' ⟨v', rfl, h2, _, h3⟩
      exact ⟨_, rfl, h2, h3⟩
set_option maxRecDepth 100000 in
theorem clone_node_some (b off n c : Nat) (xs : List Value) (w : World) (hl : xs.length = n * 5) (hn : n ≤ 1000000) (hx : ∀ j u, xs[j]? = some u → w.cell? ⟨b, off + j, none⟩ = some u) (h1 : ∀ u ∈ xs, u.oneCell' = true) :
    Calls Tryz.prog 45 #[.slice (some ⟨b, off, none⟩) n c] w fun e w' => ∃ v', e = .returned v' ∧ w'.ownsRow w.heap.size 59 5 v' n xs ∧ v' ≠ .slice none 0 0 ∧ Below w.heap.size w w' := by
  obtain ⟨i0, hi, hz0, hz1, hz2⟩ := info_parts infoN
  have qq : ∀ (w : World) (a : Option Addr) (n c n' c' : Nat), (binOp .eql 23 (.slice a n c) (.slice none n' c')).run Tryz.prog w = .ok (.bool a.isNone) w := fun w a n c n' c' => Lib.run_eql_slice_nil w _ _ a n c n' c' Tryz.underlying23
  have HX := hidden hx
  have HL := hidden hl
  have HO := hidden h1
  clear hx hl h1
  go_enter Tryz.func45, Tryz.ntmps45
  go_wp2_with (at_builtin; refine wpList_append_own _ rfl _ _ 23 rfl w.heap.size 59 i0 (.agg #[.int .i64 0, .slice none 0 0, .int .i64 0, .string ⟨#[]⟩, .int .i64 0]) 5 64 Tryz.underlying23 hi hz0 hz1 hz2 rfl (by decide) _ _ _ rfl (World.ownsRow_made w #[] 0 (Nat.le_refl _) (Nat.zero_le _) rfl) ⟨b, off, none⟩ n c xs rfl ?qc1 ?qc2 ?qc3 ?qc4 ?qc5 ?qc6 ?_)
  case qc1 => exact HL.out
  case qc2 =>
    intro j u hj
    rw [Addr.add_lit]
    exact Lib.cell?_alloc_some _ (HX.out j u hj)
  case qc3 => exact HO.out
  case qc4 => unfold maxLen; omega
  case qc5 => omega
  case qc6 => simp
  intro v' w1 hown hgrow hnil
  go_wp2
  go_ret
  refine ⟨v', rfl, by simpa using hown, ?_, ?_⟩
  · exact hnil
  · exact ((Below.refl _ w).alloc (Nat.le_refl _) _).grown hgrow (by simp) (by intro k hk; simp [Value.ownBlock] at hk; omega)
theorem clone_node_nil (n c : Nat) (w : World) :
    Calls Tryz.prog 45 #[.slice none n c] w fun e w' => e = .returned (.slice none 0 0) ∧ w' = w := by
  have qq : ∀ (w : World) (a : Option Addr) (n c n' c' : Nat), (binOp .eql 23 (.slice a n c) (.slice none n' c')).run Tryz.prog w = .ok (.bool a.isNone) w := fun w a n c n' c' => Lib.run_eql_slice_nil w _ _ a n c n' c' Tryz.underlying23
  go_enter Tryz.func45, Tryz.ntmps45
  go_wp2
  go_ret
  exact ⟨rfl, rfl⟩
theorem clone_node {B n : Nat} {v : Value} {xs : List Value} (w : World) (H : w.ownsRow B 59 5 v n xs) (hn : n ≤ 1000000) (h1 : ∀ u ∈ xs, u.oneCell' = true) :
    Calls Tryz.prog 45 #[v] w fun e w' => ∃ v', e = .returned v' ∧ w'.ownsRow w.heap.size 59 5 v' n xs ∧ Below w.heap.size w w' := by
  rcases H.2 with ⟨rfl, rfl⟩ | ⟨g, cap, cur, rfl, _⟩
  · refine (clone_node_nil 0 0 w).mono ?_
    rintro e w' ⟨rfl, rfl⟩
    exact ⟨_, rfl, ⟨H.1, .inl ⟨rfl, rfl⟩⟩, Below.refl _ _⟩
  · refine (clone_node_some g 0 n cap xs w H.1 hn (fun j u hj => ?_) h1).mono ?_
    · have := H.cells (g := g) rfl j u hj
      rw [add_zero_at] at this
      rw [Nat.zero_add]
      exact this
    · rintro e w' ⟨v', rfl, h2, _, h3⟩
      exact ⟨_, rfl, h2, h3⟩
end Go.Proofs.YtagacfcpepoaoaaGreatDoor

namespace Go.Proofs.YtagacfcpepoaoaaGreatDoor
open Go.RowKit
set_option linter.unusedVariables false

variable {B g : Nat} {L : List Tk} {w : World} {R : Bx} {p : Nat} {d e q : Int} {l : List Nd} {h : List Nat}
theorem hstep_le {h : List Nat} (hl : ∀ x ∈ h, x ≤ 200) {a : Nat} (ha : a ≤ 201) (k : Int) : hstep h a k ≤ 201 := by
  unfold hstep
  split
  · rename_i hk
    have : h.getD k.toNat 0 ≤ 200 := by
      rw [List.getD_eq_getElem?_getD, List.getElem?_eq_getElem (by omega)]
      exact hl _ (List.getElem_mem _)
    omega
  · exact ha
theorem take_fold {xs : List Int} {f : Nat → Int → Nat} {a i : Nat} (hi : i < xs.length) : (xs.take (i + 1)).foldl f a = f ((xs.take i).foldl f a) (xs.getD i 0) := by
  rw [take_getD xs i hi, List.foldl_append]
  rfl
/-- what Put tells -/
def Laid (B g : Nat) (L : List Tk) (w : World) (R : Bx) (p : Nat) (d : Int) (l : List Nd) (h : List Nat) (q : Int) (x : Nd) (en : Ending) (w' : World) : Prop :=
  (high h x.kids ≤ 200 ∧ en = .returned (.int .i64 (l.length : Int)) ∧ ∃ R' y, R'.Z = R.Z ∧ bare y = bare x ∧ Rd B g L w' R' p d (l ++ [y]) (h ++ [high h x.kids]) 0 q ∧ Fr g w w' R R') ∨
  (200 < high h x.kids ∧ en = .returned (.int .i64 (-1)) ∧ Turned B g L w R p d l h 4 x.at_ w')
theorem put_bad (c0 c1 c2 c3 c4 : Value) (H : Rd B g L w R p d l h e q) (he : e ≠ 0) :
    Calls Tryz.prog 44 #[.pointer (some ⟨g, 0, none⟩), .agg #[c0, c1, c2, c3, c4]] w fun en w' => en = .returned (.int .i64 (-1)) ∧ Below w.heap.size w w' := by
  have HH := hidden H
  have HE := hidden he
  clear H he
  go_enter Tryz.func44, Tryz.ntmps44
  rw [veil 1]
  go_wp2_with fail
  obtain ⟨W, hW⟩ : ∃ W, W = w.alloc (.cells #[c0, c1, c2, c3, c4] 59) := ⟨_, rfl⟩
  have HB : Hid (Below w.heap.size w W) := by rw [hW]; exact (Below.refl _ _).alloc (Nat.le_refl _) _
  rw [← hW]
  clear hW
  refine wp_veil ?_
  go_wp2_with fail
  refine (isWrong_bad (HH.out.below HB.out) HE.out).mono ?_
  rintro en w1 ⟨rfl, hw1⟩
  rw [hw1]; clear hw1 w1
  go_wp2_with fail
  go_ret
  exact ⟨rfl, HB.out⟩
set_option maxRecDepth 100000 in
set_option maxHeartbeats 4000000 in
theorem put_ok {B' : Nat} (x : Nd) (H : Rd B g L w R p d l h 0 q) (hk : Now B' w (kidV x) x.kids) (hf : l.length ≤ p) (hn : x.kids.length ≤ 100000) :
    Calls Tryz.prog 44 #[.pointer (some ⟨g, 0, none⟩), .agg #[.int .i64 x.kind, .slice x.ka x.kids.length x.kc, .int .i64 x.n, .string x.s, .int .i64 x.at_]] w (Laid B g L w R p d l h q x) := by
  have hpm : p < 100000 := by have := H.here; have := H.many; omega
  have hlen := H.len
  have HH := hidden H
  have HK := hidden hk
  have HLOW := hidden H.low
  have HLEN := hidden hlen
  obtain ⟨ka, cap, hkv, hrow, _⟩ := hk.shape
  have hka : x.ka = ka := by unfold kidV at hkv; injection hkv
  rw [← hka] at hrow
  have HROW := hidden hrow
  obtain ⟨ha, hc, hvh, hhr, _⟩ := H.hts.shape
  rw [List.length_map] at hvh hhr
  have HVH := hidden hvh
  have HHR := hidden hhr
  clear H hk hkv hrow hka hvh hhr hlen
  obtain ⟨M, hM⟩ : ∃ M, M = x.kids.length := ⟨_, rfl⟩
  rw [← hM] at hn HROW ⊢
  have HM := hidden hM
  clear hM
  obtain ⟨hl, hhl⟩ : ∃ hl, hl = h.length := ⟨_, rfl⟩
  rw [← hhl] at HVH HHR
  have HHL := hidden hhl
  have hhl2 : hl ≤ 100000 := by have := HLEN.out; omega
  clear hhl
  obtain ⟨Z, hZ⟩ : ∃ Z, Z = high h x.kids := ⟨_, rfl⟩
  have HZ : Hid (Z = x.kids.foldl (hstep h) 1) := hZ
  have HZ' := hidden hZ
  clear hZ
  go_enter Tryz.func44, Tryz.ntmps44
  rw [veil 1, veil 13, veil 16]
  go_wp2_with fail
  obtain ⟨W, hW⟩ : ∃ W, W = w.alloc (.cells #[.int .i64 x.kind, .slice x.ka M x.kc, .int .i64 x.n, .string x.s, .int .i64 x.at_] 59) := ⟨_, rfl⟩
  have HB : Hid (Below w.heap.size w W) := by rw [hW]; exact (Below.refl _ _).alloc (Nat.le_refl _) _
  obtain ⟨G, hG⟩ : ∃ G, G = w.heap.size := ⟨_, rfl⟩
  have HG : Hid (Held W G 59 #[.int .i64 x.kind, .slice x.ka M x.kc, .int .i64 x.n, .string x.s, .int .i64 x.at_]) := by rw [hW, hG]; exact Held.new _ _ _
  rw [← hW, ← hG]
  have HGE := hidden hG
  clear hW hG
  refine wp_veil ?_
  go_wp2_with fail
  refine (isWrong_ok (HH.out.below HB.out)).mono ?_
  rintro en w1 ⟨rfl, hw1⟩
  rw [hw1]; clear hw1 w1
  have z1 : W.cell? ⟨G, 1, none⟩ = some (.slice x.ka M x.kc) := HG.out.at_ rfl
  have c4 := (HH.out.below HB.out).c4
  rw [HVH.out] at c4
  go_wp2_with fail
  go_loop [5, 13] (fun t5 t13 => ∃ i a : Nat, i ≤ M ∧ a ≤ 201 ∧ t13 = .int .i64 (i : Int) ∧ t5 = .int .i64 (a : Int) ∧ Hid (a = (x.kids.take i).foldl (hstep h) 1)) (fun _ t13 => M - (intOf t13).toNat)
  case atStart => exact ⟨0, 1, by omega, by omega, rfl, rfl, rfl⟩
  case round =>
    obtain ⟨i, a, hi, ha1, rfl, rfl, HA⟩ := hrel
    by_cases him : i < M
    · have himi : (i : Int) < (M : Int) := by omega
      obtain ⟨kb, ko, hka, hkb, hkc⟩ := (HROW.out.below HB.out) (by omega)
      have hci := hkc i him
      simp only at hci
      rw [hka] at z1 ⊢
      have HX : Hid (i < x.kids.length) := by show i < _; rw [← HM.out]; exact him
      obtain ⟨k, hkk⟩ : ∃ k, k = x.kids.getD i 0 := ⟨_, rfl⟩
      rw [← hkk] at hci
      have HKK := hidden hkk
      clear hkk hkc hka hkb
      have HA2 : Hid (hstep h a k = (x.kids.take (i + 1)).foldl (hstep h) 1) := by show _ = _; rw [take_fold HX.out, ← HA.out, HKK.out]
      have HA3 := hidden (hstep_le HLOW.out ha1 k)
      by_cases hk0 : 0 ≤ k
      · obtain ⟨u, rfl⟩ : ∃ u : Nat, k = u := ⟨k.toNat, by omega⟩
        by_cases hkl : u < hl
        · have hkli : (u : Int) < (hl : Int) := by omega
          obtain ⟨hb, ho, hha, hhb, hhc⟩ := (HHR.out.below HB.out) (by omega)
          have hcu := hhc u hkl
          simp only at hcu
          obtain ⟨v, hv⟩ : ∃ v, v = h.getD u 0 := ⟨_, rfl⟩
          have hul : u < h.length := by rw [← HHL.out]; exact hkl
          have hv2 : (h.map Int.ofNat).getD u 0 = (v : Int) := by
            rw [hv, List.getD_eq_getElem?_getD, List.getElem?_map, List.getElem?_eq_getElem hul, List.getD_eq_getElem?_getD, List.getElem?_eq_getElem hul]
            rfl
          rw [hv2] at hcu
          have hvl : v ≤ 200 := by
            rw [hv, List.getD_eq_getElem?_getD, List.getElem?_eq_getElem hul]
            exact HLOW.out _ (List.getElem_mem _)
          have HS : Hid (hstep h a (u : Int) = max a (v + 1)) := by
            show hstep h a (u : Int) = max a (v + 1)
            unfold hstep
            rw [if_pos ⟨by omega, by omega⟩, hv]
            rfl
          rw [hha] at c4
          clear hv hv2 hul hhc hha hhb
          rcases (show a < v + 1 ∨ v + 1 < a ∨ a = v + 1 by omega) with hlt | hgt | heq
          · go_wp2_with fail
            go_round
            case rel => exact ⟨i + 1, v + 1, by omega, by omega, by go_num, by go_num, (by show _ = _; rw [← HA2.out, HS.out]; omega)⟩
            case measure => simp [intOf]; omega
          · go_wp2_with fail
            go_round
            case rel => exact ⟨i + 1, a, by omega, by omega, by go_num, by go_num, (by show _ = _; rw [← HA2.out, HS.out]; omega)⟩
            case measure => simp [intOf]; omega
          · subst heq
            go_wp2_with fail
            go_round
            case rel => exact ⟨i + 1, v + 1, by omega, by omega, by go_num, by go_num, (by show _ = _; rw [← HA2.out, HS.out]; omega)⟩
            case measure => simp [intOf]; omega
        · have hkli : ¬ (u : Int) < (hl : Int) := by omega
          have HS : Hid (hstep h a (u : Int) = a) := by
            show hstep h a (u : Int) = a
            unfold hstep
            rw [if_neg (by have := HHL.out; omega)]
          go_wp2_with fail
          go_round
          case rel => exact ⟨i + 1, a, by omega, by omega, by go_num, rfl, (by show _ = _; rw [← HA2.out, HS.out])⟩
          case measure => simp [intOf]; omega
      · have HS : Hid (hstep h a k = a) := by
          show hstep h a k = a
          unfold hstep
          rw [if_neg (by omega)]
        go_wp2_with fail
        go_round
        case rel => exact ⟨i + 1, a, by omega, by omega, by go_num, rfl, (by show _ = _; rw [← HA2.out, HS.out])⟩
        case measure => simp [intOf]; omega
    · obtain ⟨ei⟩ : Nonempty (i = M) := ⟨by omega⟩
      have HAZ : Hid (a = Z) := by
        show a = Z
        rw [HA.out, HZ.out, ei, HM.out, List.take_length]
      clear ei
      by_cases hbig : 200 < a
      · have hbigi : (200 : Int) < (a : Int) := by omega
        have z4 : W.cell? ⟨G, 4, none⟩ = some (.int .i64 x.at_) := HG.out.at_ rfl
        go_wp2_with fail
        refine (fail_ok 4 x.at_ (by decide) (HH.out.below HB.out)).mono ?_
        rintro en w3 ⟨⟨v, rfl⟩, hb3⟩
        have HB3 := hidden ((Turned.of_below HH.out HB.out).then hb3)
        clear hb3
        go_wp2_with fail
        go_ret
        exact .inr ⟨by rw [← HZ'.out, ← HAZ.out]; exact hbig, rfl, HB3.out⟩
      · have hbigi : ¬ (200 : Int) < (a : Int) := by omega
        go_wp2_with fail
        refine wp_veil ?_
        have hKW : W.ownsRow B' 3 1 (.slice x.ka M x.kc) M (x.kids.map (Value.int .i64)) := by
          have h1 := own_below HK.out HB.out
          unfold kidV at h1
          rw [← HM.out] at h1
          exact h1
        have HKW := hidden hKW
        clear hKW z1 c4
        have z1 : W.cell? ⟨G, 1, none⟩ = some (.slice x.ka M x.kc) := HG.out.at_ rfl
        have zf := HG.out.frozen 1
        go_wp2_with fail
        refine (clone_int W HKW.out (by omega) (ints_oneCell _ _)).mono ?_
        rintro en w1 ⟨v1, rfl, hown1, hb1⟩
        obtain ⟨ka1, kc1, rfl⟩ := own_shape5 hown1
        have HG1 := hidden (HG.out.since hb1)
        have HO1 := hidden hown1
        have HB1 := hidden hb1
        clear hown1 hb1 z1 zf
        have z1 : w1.cell? ⟨G, 1, none⟩ = some (.slice x.ka M x.kc) := HG1.out.at_ rfl
        have zf := HG1.out.frozen 1
        go_wp2_with fail
        obtain ⟨W2, hW2⟩ : ∃ W2, W2 = w1.setCell ⟨G, 1, none⟩ (.slice ka1 M kc1) := ⟨_, rfl⟩
        have HG2 : Hid (Held W2 G 59 #[.int .i64 x.kind, .slice ka1 M kc1, .int .i64 x.n, .string x.s, .int .i64 x.at_]) := by rw [hW2]; exact HG1.out.set 1 _
        have HB2 : Hid (Below w.heap.size w W2) := by
          rw [hW2]
          exact (below_then HB.out HB1.out).setCell (p := ⟨G, 1, none⟩) (by show _ ≤ G; rw [HGE.out]; exact Nat.le_refl _) _
        have HO2 : Hid (W2.ownsRow W.heap.size 3 1 (.slice ka1 M kc1) M (x.kids.map (Value.int .i64))) := by
          rw [hW2]
          exact World.ownsRow.kept HO1.out (grown_setCell _ _ _ _) (.inr (own_ne HO1.out HG1.out (by decide)))
        rw [← hW2]
        obtain ⟨y, hy⟩ : ∃ y : Nd, y = ⟨x.kind, ka1, kc1, x.kids, x.n, x.s, x.at_⟩ := ⟨_, rfl⟩
        have HYC : Hid (y.cs.toList = [.int .i64 x.kind, .slice ka1 M kc1, .int .i64 x.n, .string x.s, .int .i64 x.at_]) := by rw [hy, HM.out]; rfl
        have HYB : Hid (bare y = bare x) := by rw [hy]; rfl
        have HYV : Hid (kidV y = .slice ka1 M kc1) := by rw [hy, HM.out]; rfl
        have HYK : Hid (y.kids = x.kids) := by show y.kids = x.kids; rw [hy]
        clear hy hW2 z1 zf HO1 HG1 HB1
        have HWB : Hid (B ≤ W.heap.size) := by have h1 := HH.out.old; have h2 := HH.out.box.lt; have h3 := HB.out.size; show B ≤ _; omega
        have HC2 := hidden (HH.out.toCore.below HB2.out)
        have HNK : Hid (Now B W2 (kidV y) y.kids) := by
          rw [HYV.out, HYK.out]
          show W2.ownsRow B _ 1 _ x.kids.length _
          rw [← HM.out]
          exact own_base HO2.out HWB.out
        have HOFF : Hid ((kidV y).ownBlock = none ∨ (kidV y).ownBlock ≠ R.vh.ownBlock) := by
          rw [HYV.out]
          show _ ∨ _
          cases hb : (Value.slice ka1 M kc1).ownBlock with
          | none => exact .inl rfl
          | some b =>
            right
            intro e
            have h1 := (HO2.out.lt b hb).1
            have h2 := (HH.out.hts.lt b e.symm).2
            have h3 := HB.out.size
            omega
        have HZON : Hid (∀ k, R.Z k → (kidV y).ownBlock ≠ some k) := by
          rw [HYV.out]
          intro k hk e
          have h1 := (HO2.out.lt k e).1
          have h2 := (HH.out.zone k hk).1
          have h3 := HB.out.size
          omega
        have c3 := HC2.out.c3
        have f3 := HC2.out.box.frozen 3
        obtain ⟨vn, hvn⟩ : ∃ vn, vn = R.vn := ⟨_, rfl⟩
        have hOWN := HC2.out.own
        rw [← hvn] at c3 hOWN
        have HOWN := hidden hOWN
        have HVN := hidden hvn
        have y0 : W2.cell? ⟨G, 0, none⟩ = some (.int .i64 x.kind) := HG2.out.at_ rfl
        have y1 : W2.cell? ⟨G, 1, none⟩ = some (.slice ka1 M kc1) := HG2.out.at_ rfl
        have y2 : W2.cell? ⟨G, 2, none⟩ = some (.int .i64 x.n) := HG2.out.at_ rfl
        have y3 : W2.cell? ⟨G, 3, none⟩ = some (.string x.s) := HG2.out.at_ rfl
        have y4 : W2.cell? ⟨G, 4, none⟩ = some (.int .i64 x.at_) := HG2.out.at_ rfl
        have hB2 : B ≤ W2.heap.size := by have h1 := HWB.out; have h2 := HB2.out.size; have h3 := HH.out.box.lt; have h4 := HH.out.old; omega
        have hglt : g < W2.heap.size := HC2.out.box.lt
        have hGlt : G < W2.heap.size := HG2.out.lt
        clear hOWN hvn
        obtain ⟨i0, hi0, hz0, hz1, hz2⟩ := info_parts infoN
        have HI0 := hidden hi0
        have HZ0 := hidden hz0
        have HZ1 := hidden hz1
        have HZ2 := hidden hz2
        clear hi0 hz0 hz1 hz2
        go_region_law ((refine step_append_lies _ (by rfl) _ _ _ (by rfl) B 59 i0 (.agg #[.int .i64 0, .slice none 0 0, .int .i64 0, .string ⟨#[]⟩, .int .i64 0]) 5 64 Tryz.underlying23 HI0.out HZ0.out HZ1.out HZ2.out rfl (by omega) vn l.length (ndCells l) (by rfl) ((HOWN.out.alloc _).drew) ⟨W2.heap.size, 0, none⟩ 1 1 [.int .i64 x.kind, .slice ka1 M kc1, .int .i64 x.n, .string x.s, .int .i64 x.at_] (by rfl) (by rfl) (World.news_of_block (cs := #[.int .i64 x.kind, .slice ka1 M kc1, .int .i64 x.n, .string x.s, .int .i64 x.at_]) (t := 59) (fr := (0, 0)) (heap_alloc_new W2 _)) (by simp [Value.oneCell']) (by omega) (by unfold maxLen; omega) (by omega) (by simp; omega) (W2.heap.size + 1) (by simp) ?_; intro gg cap w3 hown3 hgrow hat hlt; have HG3 := hidden hgrow; have HO3 := hidden hown3; have HAT := hidden hat; have hbx := HC2.out.box.block (w' := w3) ((hgrow.block g (by have := HC2.out.box.lt; simp; omega) (fun e => own_ne HOWN.out HC2.out.box (by decide) e.symm)).trans (heap_alloc_old W2 _ HC2.out.box.lt)); have b3 : w3.cell? ⟨g, 3, none⟩ = some R.vn := hbx.at_ rfl; have f3 := hbx.frozen 3; clear hbx hown3 hgrow hat hlt))
        all_goals
          have hPN := HC2.out.node (W1 := (W2.alloc (.cells #[.int .i64 x.kind, .slice ka1 M kc1, .int .i64 x.n, .string x.s, .int .i64 x.at_] 59)).drew) (y := y) (v3 := .slice (some ⟨gg, 0, none⟩) (l.length + 1) cap) ((Below.refl _ _).alloc (Nat.le_refl _) _).drew (by rw [HYC.out]; exact HO3.out) (by rw [← HVN.out]; exact HG3.out) (fun k hk => by
            have e : gg = k := by simpa [Value.ownBlock] using hk
            subst e
            rcases HAT.out with h1 | h1
            · exact .inl (by rw [← HVN.out]; exact h1)
            · exact .inr (by omega)) HNK.out HOFF.out HZON.out
          obtain ⟨W4, hW4⟩ : ∃ W4, W4 = w3.setCell ⟨g, 3, none⟩ (.slice (some ⟨gg, 0, none⟩) (l.length + 1) cap) := ⟨_, rfl⟩
          rw [← hW4] at hPN ⊢
          have HC4 := hidden hPN.1
          have HF4 := hidden ((Fr.of_below R HB2.out).trans hPN.2)
          clear hPN hW4 b3 f3 c3 y0 y1 y2 y3 y4 hglt hGlt HG3 HO3 HAT
          have c4 := HC4.out.c4
          have f4 := HC4.out.box.frozen 4
          obtain ⟨vh, hvh⟩ : ∃ vh, vh = R.vh := ⟨_, rfl⟩
          have hHT := HC4.out.hts
          rw [← hvh] at c4 hHT
          have HHT := hidden hHT
          have HVV := hidden hvh
          have hglt : g < W4.heap.size := HC4.out.box.lt
          have hB4 : B ≤ W4.heap.size := by have h4 := HC4.out.old; omega
          clear hHT hvh
          have HHM : Hid ((h.map Int.ofNat).length ≤ 100000) := by show _ ≤ _; rw [List.length_map, ← HHL.out]; exact hhl2
          rw [HVH.out] at HVV
          go_wp2_with (at_builtin; refine wpList_kid rfl (.tmp 63) (.tmp 65) rfl B W4 vh (h.map Int.ofNat) (a : Int) rfl rfl HHT.out hB4 (by have := HHM.out; omega) ?_; intro v5 w5 hr5 hg5 hw5; have hbx := HC4.out.box.block (w' := w5) ((hg5.block g (by simp; omega) (fun e => own_ne HHT.out HC4.out.box (by decide) e.symm)).trans (heap_alloc_old W4 _ (by omega))); have b4 : w5.cell? ⟨g, 4, none⟩ = some R.vh := hbx.at_ rfl; have f4 := hbx.frozen 4; have HR5 := hidden hr5; have HG5 := hidden hg5; have HW5 := hidden hw5; obtain ⟨ga, gc, hv5⟩ := own_shape5 hr5; rw [List.length_append, List.length_map, ← HHL.out, List.length_singleton] at hv5; subst hv5; clear hbx hr5 hg5 hw5)
          have hPH := HC4.out.height (W1 := W4.alloc (.cells #[.int .i64 (a : Int)] 3)) (z := a) (v3 := .slice ga (hl + 1) gc) ((Below.refl _ _).alloc (Nat.le_refl _) _) (by rw [List.map_append]; exact HR5.out) (by show World.grownBy _ _ R.vh.ownBlock; rw [HVH.out, ← HVV.out]; exact HG5.out) (fun k hk => by
            rcases HW5.out k hk with h1 | h1
            · exact .inl (by show R.vh.ownBlock = _; rw [HVH.out, ← HVV.out]; exact h1)
            · exact .inr (by rw [h1]; simp))
          obtain ⟨W6, hW6⟩ : ∃ W6, W6 = w5.setCell ⟨g, 4, none⟩ (.slice ga (hl + 1) gc) := ⟨_, rfl⟩
          rw [← hW6] at hPH ⊢
          have HC6 := hidden hPH.1
          have HF6 := hidden (HF4.out.trans hPH.2)
          have c3 := HC6.out.c3
          clear hPH hW6 b4 f4 c4 HG5 HR5 HW5
          simp only at c3
          refine wp_veil ?_
          go_wp2_with fail
          go_ret
          refine .inl ⟨by rw [← HZ'.out, ← HAZ.out]; omega, by first | rfl | (congr 2; omega), ⟨R.tb, R.tc, .slice (some ⟨gg, 0, none⟩) (l.length + 1) cap, .slice ga (hl + 1) gc, R.Z⟩, y, rfl, HYB.out, ⟨?_, ?_, HH.out.here, ?_, ?_⟩, HF6.out⟩
          · rw [← HZ'.out, ← HAZ.out]; exact HC6.out
          · rw [List.length_append, List.length_append, HLEN.out]; rfl
          · rw [List.length_append]; show l.length + 1 ≤ p + 1; omega
          · intro u hu
            rcases List.mem_append.1 hu with hu | hu
            · exact HLOW.out u hu
            · rw [List.mem_singleton.1 hu, ← HZ'.out, ← HAZ.out]; omega
end Go.Proofs.YtagacfcpepoaoaaGreatDoor

namespace Go.Proofs.YtagacfcpepoaoaaGreatDoor
open Go.RowKit
set_option linter.unusedVariables false

variable {B g : Nat} {L : List Tk} {w : World} {R : Bx} {d : Nat} {s : PS} {f : Flt}
theorem is_some {b : List UInt8} (h : s.is b = true) : s.next.r.length + 1 = s.r.length := by
  unfold PS.is PS.tok at h
  cases hr : s.r with
  | nil => rw [hr] at h; exact absurd rfl (sees_kind h)
  | cons t r => unfold PS.next; rw [hr]; rfl
theorem kind_some (h : s.tok.kind ≠ 0) : s.next.r.length + 1 = s.r.length := by
  unfold PS.tok at h
  cases hr : s.r with
  | nil => rw [hr] at h; exact absurd rfl h
  | cons t r => unfold PS.next; rw [hr]; rfl
theorem Good.size (H : Good B g L w R d s) : s.l.length + s.r.length ≤ L.length + 1 := by
  obtain ⟨p, l, h, hr, hl⟩ := H
  have := h.few
  have := h.here
  rw [hl, hr, List.length_map, List.length_drop]
  omega
theorem Good.base (H : Good B g L w R d s) {w' : World} {R' : Bx} (F : Fr g w w' R R') : Below B w w' := by
  obtain ⟨p, l, h, hr, hl⟩ := H
  exact h.toCore.below_base F
theorem Good.some (H : Good B g L w R d s) : 0 < s.r.length := by
  obtain ⟨p, l, h, hr, hl⟩ := H
  have := h.here
  rw [hr, List.length_drop]
  omega
theorem g_token (H : Good B g L w R d s) :
    Calls Tryz.prog 42 #[.pointer (some ⟨g, 0, none⟩)] w fun en w' => en = .returned (.agg #[.int .i64 (s.tok.kind : Int), .string ⟨s.tok.text.toArray⟩, .int .i64 (s.tok.n : Int), .int .i64 (s.tok.place : Int)]) ∧ Below w.heap.size w w' := by
  obtain ⟨p, l, h, _, _, ht, _⟩ := H.tok
  exact token_any h ht
theorem b_token (H : Bad B g L w R d f) :
    Calls Tryz.prog 42 #[.pointer (some ⟨g, 0, none⟩)] w fun en w' => ∃ (k n a : Nat) (x : ByteArray), en = .returned (.agg #[.int .i64 (k : Int), .string x, .int .i64 (n : Int), .int .i64 (a : Int)]) ∧ Below w.heap.size w w' := by
  obtain ⟨p, l, h, H, _⟩ := H
  obtain ⟨t, ht, _⟩ := getD_some H.here
  exact (token_any H ht).mono fun en w' ⟨h1, h2⟩ => ⟨_, _, _, _, h1, h2⟩
theorem g_is (b : List UInt8) (H : Good B g L w R d s) :
    Calls Tryz.prog 40 #[.pointer (some ⟨g, 0, none⟩), .string ⟨b.toArray⟩] w fun en w' => en = .returned (.bool (s.is b)) ∧ Below w.heap.size w w' := by
  obtain ⟨p, l, h, _, _, ht, _⟩ := H.tok
  exact is_ok b h ht
theorem b_is (b : List UInt8) (H : Bad B g L w R d f) :
    Calls Tryz.prog 40 #[.pointer (some ⟨g, 0, none⟩), .string ⟨b.toArray⟩] w fun en w' => en = .returned (.bool false) ∧ Below w.heap.size w w' := by
  obtain ⟨p, l, h, H, hf⟩ := H
  exact is_bad b H (by omega)
theorem g_canTake (H : Good B g L w R d s) :
    Calls Tryz.prog 69 #[.pointer (some ⟨g, 0, none⟩)] w fun en w' => en = .returned (.bool true) ∧ Below w.heap.size w w' := by
  obtain ⟨p, l, h, _⟩ := H
  exact canTake_ok h
theorem b_canTake (H : Bad B g L w R d f) :
    Calls Tryz.prog 69 #[.pointer (some ⟨g, 0, none⟩)] w fun en w' => en = .returned (.bool false) ∧ Below w.heap.size w w' := by
  obtain ⟨p, l, h, H, hf⟩ := H
  exact canTake_bad H (by omega)
/-- the next token is taken -/
theorem Good.of_take {p : Nat} {l : List Nd} {w' : World} (hl : s.l = l.map bare) (hr : s.next.r = L.drop (p + 1)) (H : Turned B g L w R (p + 1) (d : Int) l s.h 0 0 w') : Good B g L w' R d s.next ∧ Fr g w w' R R :=
  ⟨⟨p + 1, l, H.1, hr, hl⟩, H.2⟩
theorem g_skip_yes (b : List UInt8) (H : Good B g L w R d s) (hs : s.is b = true) :
    Calls Tryz.prog 67 #[.pointer (some ⟨g, 0, none⟩), .string ⟨b.toArray⟩] w fun en w' => en = .returned (.bool true) ∧ Good B g L w' R d s.next ∧ Fr g w w' R R := by
  obtain ⟨p, l, h, _, hl, ht, hr⟩ := H.tok
  exact (skip_yes b h ht hs).mono fun en w' ⟨h1, h2⟩ => ⟨h1, Good.of_take hl hr h2⟩
theorem g_skip_no (b : List UInt8) (H : Good B g L w R d s) (hs : s.is b = false) :
    Calls Tryz.prog 67 #[.pointer (some ⟨g, 0, none⟩), .string ⟨b.toArray⟩] w fun en w' => en = .returned (.bool false) ∧ Below w.heap.size w w' := by
  obtain ⟨p, l, h, _, hl, ht, hr⟩ := H.tok
  exact skip_no b h ht hs
theorem b_skip (b : List UInt8) (H : Bad B g L w R d f) :
    Calls Tryz.prog 67 #[.pointer (some ⟨g, 0, none⟩), .string ⟨b.toArray⟩] w fun en w' => en = .returned (.bool false) ∧ Below w.heap.size w w' := by
  obtain ⟨p, l, h, H, hf⟩ := H
  exact skip_bad b H (by omega)
theorem g_want_yes (b : List UInt8) (H : Good B g L w R d s) (hs : s.is b = true) :
    Calls Tryz.prog 68 #[.pointer (some ⟨g, 0, none⟩), .string ⟨b.toArray⟩] w fun en w' => en = .returned (.bool true) ∧ Good B g L w' R d s.next ∧ Fr g w w' R R := by
  obtain ⟨p, l, h, _, hl, ht, hr⟩ := H.tok
  exact (want_yes b h ht hs).mono fun en w' ⟨h1, h2⟩ => ⟨h1, Good.of_take hl hr h2⟩
theorem g_want_no (b : List UInt8) (H : Good B g L w R d s) (hs : s.is b = false) :
    Calls Tryz.prog 68 #[.pointer (some ⟨g, 0, none⟩), .string ⟨b.toArray⟩] w fun en w' => en = .returned (.bool false) ∧ Bad B g L w' R d (8, s.tok.place) ∧ Fr g w w' R R := by
  obtain ⟨p, l, h, _, hl, ht, hr⟩ := H.tok
  exact (want_no b h ht hs).mono fun en w' ⟨h1, h2⟩ => ⟨h1, ⟨p, l, s.h, h2.1, by show 8 ≠ 0; decide⟩, h2.2⟩
theorem b_want (b : List UInt8) (H : Bad B g L w R d f) :
    Calls Tryz.prog 68 #[.pointer (some ⟨g, 0, none⟩), .string ⟨b.toArray⟩] w fun en w' => en = .returned (.bool false) ∧ Below w.heap.size w w' := by
  obtain ⟨p, l, h, H, hf⟩ := H
  exact want_bad b H (by omega)
theorem g_name_yes (H : Good B g L w R d s) (hs : s.tok.kind = 1) :
    Calls Tryz.prog 89 #[.pointer (some ⟨g, 0, none⟩)] w fun en w' => en = .returned (.string ⟨s.tok.text.toArray⟩) ∧ Good B g L w' R d s.next ∧ Fr g w w' R R := by
  obtain ⟨p, l, h, _, hl, ht, hr⟩ := H.tok
  exact (name_yes h ht hs).mono fun en w' ⟨h1, h2⟩ => ⟨h1, Good.of_take hl hr h2⟩
theorem g_name_no (H : Good B g L w R d s) (hs : s.tok.kind ≠ 1) :
    Calls Tryz.prog 89 #[.pointer (some ⟨g, 0, none⟩)] w fun en w' => en = .returned (.string ⟨#[]⟩) ∧ Bad B g L w' R d (8, s.tok.place) ∧ Fr g w w' R R := by
  obtain ⟨p, l, h, _, hl, ht, hr⟩ := H.tok
  exact (name_no h ht hs).mono fun en w' ⟨h1, h2⟩ => ⟨h1, ⟨p, l, s.h, h2.1, by show 8 ≠ 0; decide⟩, h2.2⟩
theorem b_name (H : Bad B g L w R d f) :
    Calls Tryz.prog 89 #[.pointer (some ⟨g, 0, none⟩)] w fun en w' => en = .returned (.string ⟨#[]⟩) ∧ Below w.heap.size w w' := by
  obtain ⟨p, l, h, H, hf⟩ := H
  exact name_bad H (by omega)
theorem g_open_ok (a : Nat) (H : Good B g L w R d s) (hd : d < 200) :
    Calls Tryz.prog 91 #[.pointer (some ⟨g, 0, none⟩), .int .i64 (a : Int)] w fun en w' => en = .returned (.bool true) ∧ Good B g L w' R (d + 1) s ∧ Fr g w w' R R := by
  obtain ⟨p, l, h, hr, hl⟩ := H
  exact (open_ok (a : Int) h (by omega)).mono fun en w' ⟨h1, h2⟩ => ⟨h1, ⟨p, l, by have := h2.1; exact this, hr, hl⟩, h2.2⟩
theorem g_open_deep (a : Nat) (H : Good B g L w R d s) (hd : 200 ≤ d) (hd2 : d ≤ 1000) :
    Calls Tryz.prog 91 #[.pointer (some ⟨g, 0, none⟩), .int .i64 (a : Int)] w fun en w' => en = .returned (.bool false) ∧ Bad B g L w' R (d + 1) (4, a) ∧ Fr g w w' R R := by
  obtain ⟨p, l, h, hr, hl⟩ := H
  exact (open_deep (a : Int) h (by omega)).mono fun en w' ⟨h1, h2⟩ => ⟨h1, ⟨p, l, s.h, by have := h2.1; exact this, by show 4 ≠ 0; decide⟩, h2.2⟩
theorem b_open (a : Nat) (H : Bad B g L w R d f) (hd2 : d ≤ 1000) :
    Calls Tryz.prog 91 #[.pointer (some ⟨g, 0, none⟩), .int .i64 (a : Int)] w fun en w' => en = .returned (.bool false) ∧ Bad B g L w' R (d + 1) f ∧ Fr g w w' R R := by
  obtain ⟨p, l, h, H, hf⟩ := H
  exact (open_bad (a : Int) H (by omega) (by omega)).mono fun en w' ⟨h1, h2⟩ => ⟨h1, ⟨p, l, h, by have := h2.1; exact this, hf⟩, h2.2⟩
theorem g_close (H : Good B g L w R (d + 1) s) (hd2 : d ≤ 1000) :
    Calls Tryz.prog 93 #[.pointer (some ⟨g, 0, none⟩)] w fun en w' => (∃ v, en = .returned v) ∧ Good B g L w' R d s ∧ Fr g w w' R R := by
  obtain ⟨p, l, h, hr, hl⟩ := H
  refine (close_any h (by omega)).mono fun en w' ⟨h1, h2⟩ => ⟨h1, ⟨p, l, ?_, hr, hl⟩, h2.2⟩
  have := h2.1
  rw [show ((d + 1 : Nat) : Int) - 1 = (d : Int) by omega] at this
  exact this
theorem b_close (H : Bad B g L w R (d + 1) f) (hd2 : d ≤ 1000) :
    Calls Tryz.prog 93 #[.pointer (some ⟨g, 0, none⟩)] w fun en w' => (∃ v, en = .returned v) ∧ Bad B g L w' R d f ∧ Fr g w w' R R := by
  obtain ⟨p, l, h, H, hf⟩ := H
  refine (close_any H (by omega)).mono fun en w' ⟨h1, h2⟩ => ⟨h1, ⟨p, l, h, ?_, hf⟩, h2.2⟩
  have := h2.1
  rw [show ((d + 1 : Nat) : Int) - 1 = (d : Int) by omega] at this
  exact this
theorem g_fail (x a : Nat) (hx : x ≠ 0) (H : Good B g L w R d s) :
    Calls Tryz.prog 41 #[.pointer (some ⟨g, 0, none⟩), .int .i64 (x : Int), .int .i64 (a : Int)] w fun en w' => (∃ v, en = .returned v) ∧ Bad B g L w' R d (x, a) ∧ Fr g w w' R R := by
  obtain ⟨p, l, h, hr, hl⟩ := H
  exact (fail_ok (x : Int) (a : Int) (by omega) h).mono fun en w' ⟨h1, h2⟩ => ⟨h1, ⟨p, l, s.h, h2.1, hx⟩, h2.2⟩
/-- how much there is to do: nothing behind what was noted -/
def lam (g n : Nat) (w : World) : Nat := match w.cell? ⟨g, 5, none⟩, w.cell? ⟨g, 1, none⟩ with
  | some (.int _ e), some (.int _ p) => if e = 0 then n - p.toNat else 0
  | _, _ => 0
theorem Good.lam (H : Good B g L w R d s) : lam g L.length w = s.r.length := by
  obtain ⟨p, l, h, hr, hl⟩ := H
  unfold Go.Proofs.YtagacfcpepoaoaaGreatDoor.lam
  rw [h.c5, h.c1]
  show (if (0 : Int) = 0 then _ else _) = _
  rw [if_pos rfl, hr, List.length_drop]
  rfl
theorem Bad.lam (H : Bad B g L w R d f) : lam g L.length w = 0 := by
  obtain ⟨p, l, h, H, hf⟩ := H
  unfold Go.Proofs.YtagacfcpepoaoaaGreatDoor.lam
  rw [H.c5, H.c1]
  show (if (f.1 : Int) = 0 then _ else _) = _
  rw [if_neg (by omega)]
/-- another block stays -/
theorem Good.held {w' : World} {R' : Bx} {G : Nat} {t : TypeId} {cs : Array Value} (H : Good B g L w R d s) (F : Fr g w w' R R') (h : Held w G t cs) (h1 : t ≠ 74) (h2 : t ≠ 59) (h3 : t ≠ 3) : Held w' G t cs := by
  obtain ⟨p, l, H, _⟩ := H
  refine h.block (F.block G h.lt ?_ (own_ne H.own h (fun e => h2 e.symm)) (own_ne H.hts h (fun e => h3 e.symm)))
  intro e
  subst e
  have h4 : w.heap[G]? = _ := H.box
  have h5 : w.heap[G]? = _ := h
  rw [h4] at h5
  injection h5 with h6
  injection h6 with _ h7
  exact h1 h7.symm
/-- what is read, and what lies in memory then -/
def Ends (B g : Nat) (L : List Tk) (w : World) (R : Bx) (d : Nat) (v : Out) (en : Ending) (w' : World) : Prop :=
  ∃ R', Fr g w w' R R' ∧ R'.Z = R.Z ∧ ((∃ k s', v = .ok ([k], s') ∧ en = .returned (.int .i64 k) ∧ Good B g L w' R' d s') ∨ (∃ f, v = .error f ∧ en = .returned (.int .i64 (-1)) ∧ Bad B g L w' R' d f))
theorem g_put {B' : Nat} (x : Nd) (a : Nat) (H : Good B g L w R d s) (hk : Now B' w (kidV x) x.kids) (hf : s.l.length + s.r.length ≤ L.length) (hn : x.kids.length ≤ 100000) (ha : x.at_ = (a : Int)) :
    Calls Tryz.prog 44 #[.pointer (some ⟨g, 0, none⟩), .agg #[.int .i64 x.kind, .slice x.ka x.kids.length x.kc, .int .i64 x.n, .string x.s, .int .i64 x.at_]] w (Ends B g L w R d (lay (bare x) s)) := by
  obtain ⟨p, l, h, hr, hl⟩ := H
  have hh := h.here
  have hll : s.l.length = l.length := by rw [hl, List.length_map]
  refine (put_ok x h hk (by rw [hll, hr, List.length_drop] at hf; omega) hn).mono ?_
  rintro en w' (⟨h1, h2, R', y, hzz, hy, hR, hF⟩ | ⟨h1, h2, hT⟩)
  · refine ⟨R', hF, hzz, .inl ⟨(s.l.length : Int), ⟨s.r, s.l ++ [bare x], s.h ++ [high s.h x.kids]⟩, ?_, by rw [hll]; exact h2, p, l ++ [y], hR, hr, ?_⟩⟩
    · unfold lay
      rw [if_neg (by show ¬ 200 < high s.h x.kids; omega)]
      rfl
    · show s.l ++ [bare x] = _
      rw [List.map_append, hl, ← hy]
      rfl
  · refine ⟨R, hT.2, rfl, .inr ⟨(4, a), ?_, h2, p, l, s.h, ?_, by show 4 ≠ 0; decide⟩⟩
    · unfold lay
      rw [if_pos (by show 200 < high s.h x.kids; omega)]
      show Except.error (4, x.at_.toNat) = _
      rw [ha]
      rfl
    · have := hT.1
      rw [ha] at this
      exact this
theorem b_put (c0 c1 c2 c3 c4 : Value) (H : Bad B g L w R d f) :
    Calls Tryz.prog 44 #[.pointer (some ⟨g, 0, none⟩), .agg #[c0, c1, c2, c3, c4]] w fun en w' => en = .returned (.int .i64 (-1)) ∧ Below w.heap.size w w' := by
  obtain ⟨p, l, h, H, hf⟩ := H
  exact put_bad c0 c1 c2 c3 c4 H (by omega)
/-- kids that were listed just now -/
theorem now_new (w : World) (xs : List Int) (cs : Array Value) (hcs : cs = (xs.map (Value.int .i64)).toArray) (hx : xs.length ≤ 100000) (n : Nat) (hn : n = xs.length) : Now w.heap.size (w.alloc (.cells cs 3)) (.slice (some ⟨w.heap.size, 0, none⟩) n n) xs := by
  subst hn
  refine ⟨by rw [List.length_map, Nat.mul_one], .inr ⟨w.heap.size, xs.length, cs, rfl, Nat.le_refl _, Held.new w _ cs, Nat.le_refl _, by unfold maxLen; omega, by rw [hcs]; simp, by rw [hcs, Nat.mul_one]; exact List.take_of_length_le (by simp)⟩⟩
end Go.Proofs.YtagacfcpepoaoaaGreatDoor
