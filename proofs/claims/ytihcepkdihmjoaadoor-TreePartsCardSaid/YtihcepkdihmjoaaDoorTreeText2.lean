/- The walk through Text. -/
import Derived.Test.YtihcepkdihmjoaaDoorTreeSize
import Derived.Laws.EntriesVeiled
import Derived.IntWalk
namespace Go.Proofs.YtihcepkdihmjoaaDoor
open Go.RowKit
set_option linter.unusedVariables false

/-- the text, or none -/
def Spoken (l : List Nd) (w : World) (e : Ending) (w' : World) : Prop :=
  Below w.heap.size w w' ∧ ((Rt l ∧ e = .returned (txt (tx l (l.length - 1)))) ∨ (¬ Rt l ∧ e = .returned (txt [])))
set_option maxRecDepth 100000 in
set_option maxHeartbeats 8000000 in
theorem text_any (a : Option Addr) (c n : Nat) (l : List Nd) (w : World) (hn : n = l.length) (hTb : Tabs w) (hN : Nodes w a l) (hll : n ≤ 1000000000) :
    Calls Tryd.prog 13 #[.slice a n c] w (Spoken l w) := by
  have HNL := hidden hn
  have HN := hidden hN
  have HTB := hidden hTb
  clear hn hN hTb
  obtain ⟨w1, hw1⟩ : ∃ w1, w1 = w.alloc (.cells #[.slice a n c] 22) := ⟨_, rfl⟩
  have HB1 : Hid (Below w.heap.size w w1) := by rw [hw1]; exact (Below.refl _ _).alloc (Nat.le_refl _) _
  have HL1 : Hid (Held w1 w.heap.size 22 #[.slice a n c]) := by rw [hw1]; exact Held.new w _ _
  have hright := right_any a c l w1 (HTB.out.below HB1.out) (HN.out.below HB1.out) (by rw [← HNL.out]; exact hll)
  rw [← HNL.out] at hright
  have HR := hidden hright
  clear hright
  go_enter Tryd.func13, Tryd.ntmps13
  rw [veil 5]
  go_wp2_with fail
  rw [← hw1]
  refine HR.out.mono ?_
  rintro e w2 ⟨b, rfl, hiff, hb2⟩
  have HB2 : Hid (Below w.heap.size w w2) := HB1.out.trans (hb2.mono HB1.out.size)
  have HL2 := hidden (HL1.out.since hb2)
  have HIF := hidden hiff
  clear hb2 hiff hw1
  cases b with
  | false =>
    go_wp2_with fail
    go_ret
    exact ⟨HB2.out, .inr ⟨(fun h => by cases HIF.out.2 h), rfl⟩⟩
  | true =>
    have HRT : Hid (Rt l) := HIF.out.1 rfl
    have hpos : 0 < n := by rw [HNL.out]; exact HRT.out.1.1
    go_wp2_with fail
    obtain ⟨B, hB⟩ : ∃ B, B = w2.heap.size := ⟨_, rfl⟩
    obtain ⟨lb, hlb⟩ : ∃ lb, lb = w.heap.size := ⟨_, rfl⟩
    rw [← hB, ← hlb]
    rw [← hlb] at HL2
    have HLB := hidden hlb
    obtain ⟨w3, hw3⟩ : ∃ w3, w3 = (w2.alloc (.cells #[.pointer none, .slice none 0 0] 48)).alloc (.cells #[.nilFunc] 49) := ⟨_, rfl⟩
    rw [← hw3]
    have hlbB : lb < B := by rw [hB]; exact HL2.out.lt
    have HH0 : Hid (Held w3 B 48 #[.pointer none, .slice none 0 0]) := by rw [hw3, hB]; exact (Held.new w2 _ _).alloc _
    have HH1 : Hid (Held w3 (B + 1) 49 #[.nilFunc]) := by
      have h := Held.new (w2.alloc (.cells #[.pointer none, .slice none 0 0] 48)) 49 #[.nilFunc]
      have e : (w2.alloc (.cells #[.pointer none, .slice none 0 0] 48)).heap.size = B + 1 := by rw [hB]; simp
      rw [e] at h
      rw [hw3]
      exact h
    have HB3 : Hid (Below w2.heap.size w2 w3) := by rw [hw3]; exact ((Below.refl _ _).alloc (Nat.le_refl _) _).alloc (by simp) _
    have HL3 := hidden (HL2.out.since HB3.out)
    have HBB := hidden hB
    clear hB hlb hw3
    have cr := HH1.out.at_ (j := 0) (v := .nilFunc) rfl
    have fr := HH1.out.frozen 0
    refine wp_veil ?_
    go_wp2_with fail
    obtain ⟨w4, hw4⟩ : ∃ w4, w4 = w3.setCell ⟨B + 1, 0, none⟩ (.func (.func 32) #[] #[.pointer (some ⟨B, 0, none⟩), .pointer (some ⟨B + 1, 0, none⟩), .pointer (some ⟨lb, 0, none⟩)]) := ⟨_, rfl⟩
    rw [← hw4]
    have HB4 : Hid (Below w2.heap.size w2 w4) := by
      rw [hw4]
      exact HB3.out.setCell (p := ⟨B + 1, 0, none⟩) (by show _ ≤ B + 1; rw [HBB.out]; omega) _
    have HE : Hid (TEnv w2 w4 a l n c B (B + 1) lb) := by
      refine ⟨HN.out.below HB2.out, HTB.out.below HB2.out, HB4.out, by rw [HBB.out]; exact Nat.le_refl _, ?_, ?_, by omega, by omega⟩
      · rw [hw4]; exact HH1.out.set 0 _
      · rw [hw4]; exact HL3.out.off (g' := B + 1) (by omega) 0 _
    have HBL : Hid (Lib.IsBuilderF 48 5 w2.heap.size B [] w4) := by
      refine .inl ⟨by rw [HBB.out]; exact Nat.le_refl _, .slice none 0 0, ?_, ⟨rfl, .inl ⟨rfl, rfl⟩⟩, by simp [Value.ownBlock]⟩
      rw [hw4]
      exact HH0.out.off (g' := B + 1) (by omega) 0 _
    clear hw4 cr fr HH0 HH1 HL3 HIF
    have cP := Held.at_ (show Held w4 (B + 1) 49 _ from HE.out.pc) (j := 0) rfl
    have cL := Held.at_ (show Held w4 lb 22 _ from HE.out.lc) (j := 0) rfl
    obtain ⟨p, rfl⟩ : ∃ p, n = p + 1 := ⟨n - 1, by omega⟩
    have hpl : p < l.length := by rw [← HNL.out]; omega
    obtain ⟨nb, no, rfl, hnb, c0, c1, c2, c3, c4⟩ := (HE.out.nodes.below HE.out.below).at_ hpl
    have HVQ : Hid ((nd l p).v = .agg #[.int .i64 (nd l p).kind, .slice (nd l p).ka (nd l p).kids.length (nd l p).kc, .int .i64 (nd l p).n, .string (nd l p).s, .int .i64 (nd l p).at_]) := rfl
    have HTS : Hid ((tx l p).length ≤ 64 * l.length) := tx_short HRT.out.1 HRT.out.2.1 (fun i hi => (HN.out.2 i hi).n1) hpl
    obtain ⟨y, hy⟩ : ∃ y, y = nd l p := ⟨_, rfl⟩
    rw [← hy] at c0 c1 c2 c3 c4 HVQ
    have HY := hidden hy
    clear hy
    have hwp : IntKind.i64.wrap (p : Int) = (p : Int) := Go.IntWalk.i64_in _ (by omega)
    have hpi : (p : Int) < (p : Int) + 1 := by omega
    go_wp2_with fail
    go_still_tail 7, (by kernel_rfl)
    change wpList _ _ _ _ _ w4.drew
    obtain ⟨w5, hw5⟩ : ∃ w5, w5 = w4.drew := ⟨_, rfl⟩
    have HD5 : Hid (Below w4.heap.size w4 w5) := by rw [hw5]; exact below_drewN w4 1 _
    rw [← hw5]
    have hput := put_any w2 (some ⟨nb, no, none⟩) l (p + 1) c B (B + 1) lb HRT.out.1.2.1 HNL.out hll (fun i hi => kind_of HRT.out.2.1 hi) (p + 1) p (by omega) hpl [] w5 (HE.out.keep (HD5.out.mono HB4.out.size) (others_below HD5.out)) (bld_below HBL.out HD5.out) (by have h1 := HTS.out; have h2 := HNL.out; simp; omega)
    rw [← HY.out, HVQ.out] at hput
    have HPUT := hidden hput
    clear hput hw5 c0 c1 c2 c3 c4 cP cL
    go_wp2_with fail
    refine HPUT.out.mono ?_
    rintro e w6 ⟨rfl, hb6, hbe6, hk6⟩
    have HB6 := hidden hb6
    have HBE6 : Hid (Below w.heap.size w w6) := by
      have h1 : Below w2.heap.size w2 w6 := (HB4.out.trans (HD5.out.mono HB4.out.size)).trans hbe6
      exact HB2.out.trans (h1.mono HB2.out.size)
    clear hb6 hbe6 hk6
    rw [List.nil_append] at HB6
    go_wp2_with fail
    refine (Tryd.Builder_String_any_k w2.heap.size B (tx l p) w6 HB6.out (bld_size HB6.out)).mono ?_
    rintro e w7 ⟨rfl, _, hb7, _⟩
    have HB7 : Hid (Below w.heap.size w w7) := HBE6.out.trans (hb7.mono HB2.out.size)
    clear hb7
    go_wp2_with fail
    go_ret
    refine ⟨HB7.out, .inl ⟨HRT.out, ?_⟩⟩
    have e : l.length - 1 = p := by rw [← HNL.out, Nat.add_sub_cancel]
    rw [e]
    rfl
end Go.Proofs.YtihcepkdihmjoaaDoor
