/- What only reads scopes: Depth, Find, Kinds; of none, too. -/
import Derived.Test.YtncbkedfodaabaaScopeClone
import Derived.Deep.QuietTactic
import Derived.BigQuiet
import Derived.Lib.Walk
import Derived.OwnWalk
namespace Go.Proofs.Ytncbkedfodaabaa
open Go.RowKit
set_option linter.unusedVariables false

theorem nil_eq (w : World) (a : Option Addr) : (binOp .eql 24 (.pointer a) (.pointer none)).run Try.prog w = .ok (.bool a.isNone) w := by
  cases a <;> rfl
theorem depth_any {w : World} {p : Nat} {F : Nat → Prop} {R : List (List Dc)} {ks : List Nat} (H : IsS w p F R ks) :
    Calls Try.prog 16 #[.pointer (some ⟨p, 0, none⟩)] w fun e w' => e = .returned (.int .i64 (R.length : Int)) ∧ w' = w := by
  obtain ⟨b, n, vB, vK, vs, L⟩ := H
  obtain ⟨a, cap, hv, _⟩ := own_len L.blocks
  have c1 : w.cell? ⟨p, 1, none⟩ = some (.slice a R.length cap) := L.box.at_ (by rw [hv]; rfl)
  clear L
  go_enter Try.func16, Try.ntmps16
  go_wp2
  go_ret
  exact ⟨rfl, rfl⟩
theorem depth_nil (w : World) : Calls Try.prog 16 #[.pointer none] w fun e w' => e = .returned (.int .i64 0) ∧ w' = w := by
  go_enter Try.func16, Try.ntmps16
  go_wp2
  go_ret
  exact ⟨rfl, rfl⟩
/-- such that no call made -/
def zcs : Array Value := #[.map none, .slice none 0 0, .slice none 0 0]
theorem depth_zero {w : World} {p : Nat} (H : Held w p 52 zcs) : Calls Try.prog 16 #[.pointer (some ⟨p, 0, none⟩)] w fun e w' => e = .returned (.int .i64 0) ∧ w' = w := by
  have c1 : w.cell? ⟨p, 1, none⟩ = some (.slice none 0 0) := H.at_ rfl
  clear H
  go_enter Try.func16, Try.ntmps16
  go_wp2
  go_ret
  exact ⟨rfl, rfl⟩
/-- what Find tells -/
def told (x : Nat × Nat × Nat) : Value := .tuple #[.int .i64 (x.1 : Int), .int .i64 (x.2.1 : Int), .bool (!decide (x.2.1 = 0))]
theorem find_nil (w : World) (s : ByteArray) : Calls Try.prog 15 #[.pointer none, .string s] w fun e w' => e = .returned (told (0, 0, 0)) ∧ w' = w := by
  go_enter Try.func15, Try.ntmps15
  go_wp2
  go_ret3
  exact ⟨rfl, rfl⟩
theorem find_at {w : World} {p : Nat} {m : Value} {s : ByteArray} {x : Nat × Nat × Nat} (c0 : w.cell? ⟨p, 0, none⟩ = some m) (hl : ∀ w' : World, Below w.heap.size w w' → (Instr.lookup 49 m (.string s) false).run Try.prog w' = .ok (tv x) w') :
    Calls Try.prog 15 #[.pointer (some ⟨p, 0, none⟩), .string s] w fun e w' => e = .returned (told x) ∧ Below w.heap.size w w' := by
  obtain ⟨x1, x2, x3⟩ := x
  have h1 := hl w (Below.refl _ _)
  clear hl
  simp only [tv] at h1
  have hx : ((x2 : Int) != 0) = !decide (x2 = 0) := by by_cases h : x2 = 0 <;> simp [h]
  go_enter Try.func15, Try.ntmps15
  go_wp2_with fail
  go_quiet (fail)
  go_wp2_with fail
  go_ret3
  refine ⟨?_, ?_⟩
  · unfold told; rw [← hx]; rfl
  · exact ((Below.refl _ w).alloc (Nat.le_refl _) _).trans (below_drewN _ _ _)
theorem find_any {w : World} {p : Nat} {F : Nat → Prop} {R : List (List Dc)} {ks : List Nat} (H : IsS w p F R ks) {s : ByteArray} (hs : s.size ≤ maxLen) :
    Calls Try.prog 15 #[.pointer (some ⟨p, 0, none⟩), .string s] w fun e w' => e = .returned (told (Sees R s)) ∧ Below w.heap.size w w' := by
  obtain ⟨b, n, vB, vK, vs, L⟩ := H
  exact find_at (m := .map (some b)) (L.box.at_ rfl) fun w' hb => (L.map.block (hb.block b L.map.lt)).look hs
theorem find_zero {w : World} {p : Nat} (H : Held w p 52 zcs) {s : ByteArray} (hs : s.size ≤ maxLen) :
    Calls Try.prog 15 #[.pointer (some ⟨p, 0, none⟩), .string s] w fun e w' => e = .returned (told (0, 0, 0)) ∧ Below w.heap.size w w' :=
  find_at (m := .map none) (H.at_ rfl) fun w' hb => look_none w' hs
theorem kinds_nil (w : World) : Calls Try.prog 18 #[.pointer none] w fun e w' => e = .returned (.slice none 0 0) ∧ w' = w := by
  go_enter Try.func18, Try.ntmps18
  go_wp2
  go_ret
  exact ⟨rfl, rfl⟩
theorem kinds_at {w : World} {p B n : Nat} {v : Value} {xs : List Value} (c2 : w.cell? ⟨p, 2, none⟩ = some v) (H : w.ownsRow B 3 1 v n xs) (hn : n ≤ 1000000) (h1 : ∀ u ∈ xs, u.oneCell' = true) :
    Calls Try.prog 18 #[.pointer (some ⟨p, 0, none⟩)] w fun e w' => ∃ v', e = .returned v' ∧ w'.ownsRow w.heap.size 3 1 v' n xs ∧ Below w.heap.size w w' := by
  have hc := clone_int w H hn h1
  clear H
  go_enter Try.func18, Try.ntmps18
  go_wp2_with (go_at_call 20; refine hc.mono ?_; rintro e w1 ⟨v', rfl, hown, hb⟩)
  go_ret
  exact ⟨v', rfl, hown, hb⟩
theorem kcs_one (ks : List Nat) : ∀ u ∈ kcs ks, u.oneCell' = true := by
  intro u hu
  obtain ⟨k, _, rfl⟩ := List.mem_map.1 hu
  rfl
theorem kinds_any {w : World} {p : Nat} {F : Nat → Prop} {R : List (List Dc)} {ks : List Nat} (H : IsS w p F R ks) (hk : ks.length ≤ 1000000) :
    Calls Try.prog 18 #[.pointer (some ⟨p, 0, none⟩)] w fun e w' => ∃ v', e = .returned v' ∧ w'.ownsRow w.heap.size 3 1 v' ks.length (kcs ks) ∧ Below w.heap.size w w' := by
  obtain ⟨b, n, vB, vK, vs, L⟩ := H
  exact kinds_at (L.box.at_ rfl) L.kinds hk (kcs_one ks)
theorem kinds_zero {w : World} {p : Nat} (H : Held w p 52 zcs) :
    Calls Try.prog 18 #[.pointer (some ⟨p, 0, none⟩)] w fun e w' => ∃ v', e = .returned v' ∧ w'.ownsRow w.heap.size 3 1 v' 0 [] ∧ Below w.heap.size w w' :=
  kinds_at (B := 0) (H.at_ rfl) (World.ownsRow_nil _ _ _ _) (by omega) (by simp)
end Go.Proofs.Ytncbkedfodaabaa
