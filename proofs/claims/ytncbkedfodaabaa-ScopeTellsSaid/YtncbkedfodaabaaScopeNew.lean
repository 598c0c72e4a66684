/- New and Open: one block, one more. -/
import Derived.Test.YtncbkedfodaabaaScopeRead
import Derived.Lib.Walk
namespace Go.Proofs.Ytncbkedfodaabaa
open Go.RowKit
set_option linter.unusedVariables false

theorem infoD : (Try.prog.info? 54).map (fun i => (i.zero, i.size, i.bytes)) = some (some (.slice none 0 0), 1, 24) := by kernel_rfl
theorem infoC : (Try.prog.info? 58).map (fun i => (i.zero, i.size, i.bytes)) = some (some (.agg #[.string ⟨#[]⟩, .int .i64 0, .int .i64 0, .int .i64 0]), 4, 40) := by kernel_rfl
theorem new_any (w : World) : Calls Try.prog 7 #[] w fun e w' => ∃ p F, e = .returned (.pointer (some ⟨p, 0, none⟩)) ∧ IsS w' p F [[]] [] ∧ Below w.heap.size w w' ∧ ∀ k, F k → w.heap.size ≤ k := by
  have hmk : ∀ w : World, (Instr.makeSlice 50 (.int .i64 1) (.int .i64 1)).run Try.prog w = .ok (.slice (some ⟨w.heap.size, 0, none⟩) 1 1) (w.alloc (.cells #[.slice none 0 0] 54)) := fun w =>
    (by rw [show (#[.slice none 0 0] : Array Value) = madeCells #[.slice none 0 0] 1 by (apply Array.toList_inj.1; simp [madeCells, List.range_succ])]; exact run_make_row' (P := Try.prog) 50 54 (.slice none 0 0) 24 Try.underlying50 infoD rfl .i64 .i64 1 (by omega) (by omega) w)
  have hmm := @run_makeMap Try.prog
  go_enter Try.func7, Try.ntmps7
  go_wp2
  go_ret
  obtain ⟨w1, hw1⟩ : ∃ w1, w1 = w.alloc (.map #[] 0) := ⟨_, rfl⟩
  have hs1 : w1.heap.size = w.heap.size + 1 := by rw [hw1, World.size_alloc]
  have hm1 : MapIs w1 w.heap.size 0 (fun _ => (0, 0, 0)) := by rw [hw1]; exact MapIs.made w
  have hb1 : Below w.heap.size w w1 := by rw [hw1]; exact (Below.refl _ _).alloc (Nat.le_refl _) _
  rw [← hw1]
  clear hw1
  obtain ⟨w2, hw2⟩ : ∃ w2, w2 = w1.alloc (.cells #[.slice none 0 0] 54) := ⟨_, rfl⟩
  have hs2 : w2.heap.size = w.heap.size + 2 := by rw [hw2, World.size_alloc, hs1]
  have hh2 : Held w2 (w.heap.size + 1) 54 #[.slice none 0 0] := by rw [hw2, ← hs1]; exact Held.new _ _ _
  have hm2 : MapIs w2 w.heap.size 0 (fun _ => (0, 0, 0)) := by rw [hw2]; exact hm1.kept (World.grownBy_alloc _ _ none) (by simp)
  have hb2 : Below w.heap.size w w2 := by rw [hw2]; exact hb1.alloc hb1.size _
  rw [← hw2]
  clear hw2 hm1 hb1
  obtain ⟨cs, hcs⟩ : ∃ cs : Array Value, cs = #[.map (some w.heap.size), .slice (some ⟨w.heap.size + 1, 0, none⟩) 1 1, .slice none 0 0] := ⟨_, rfl⟩
  rw [← hcs]
  refine ⟨w.heap.size + 2, fun k => w.heap.size ≤ k ∧ k < w.heap.size + 3, rfl, ⟨w.heap.size, 0, .slice (some ⟨w.heap.size + 1, 0, none⟩) 1 1, .slice none 0 0, [.slice none 0 0], ?_⟩, hb2.alloc hb2.size _, fun k h => h.1⟩
  refine ⟨?_, ?_, ?_, World.ownsRow_nil _ _ _ _, ⟨World.ownsRow_nil _ _ _ _, by simp, trivial⟩, ?_, by simp [total], by simp, ?_, by omega, by omega, ?_, ?_, ?_⟩
  · rw [← hcs, ← hs2]; exact Held.new _ _ _
  · refine (hm2.kept (World.grownBy_alloc _ _ none) (by simp)).congr fun s _ => ?_
    rw [sees_open]; rfl
  · exact ⟨rfl, .inr ⟨w.heap.size + 1, 1, _, rfl, Nat.zero_le _, hh2.alloc _, Nat.le_refl _, by unfold maxLen; omega, rfl, rfl⟩⟩
  · intro c hc d hd
    simp at hc
    subst hc
    cases hd
  · intro k hk
    rw [World.size_alloc]
    omega
  · intro k hk
    simp [Value.ownBlock] at hk
    omega
  · intro k hk
    simp [Value.ownBlock] at hk
  · intro u hu k hk
    simp at hu
    subst hu
    simp [Value.ownBlock] at hk
/-- one more block within the others -/
theorem open_any {w : World} {p : Nat} {F : Nat → Prop} {R : List (List Dc)} {ks : List Nat} (H : IsS w p F R ks) (hR : R.length ≤ 1000000) :
    Calls Try.prog 9 #[.pointer (some ⟨p, 0, none⟩)] w fun e w' => e = .returned (.tuple #[]) ∧ ∃ F', IsS w' p F' ([] :: R) ks ∧ Tn F w w' ∧ Grew F F' w := by
  have hd := depth_any H
  have hR0 : 0 < R.length := List.length_pos_iff.2 H.some_
  obtain ⟨b, n, vB, vK, vs, L⟩ := H
  have hpos : (0 : Int) < (R.length : Int) := by omega
  obtain ⟨c, hc⟩ : ∃ c, c = R.length := ⟨_, rfl⟩
  rw [← hc] at hd hpos
  have c1 : w.cell? ⟨p, 1, none⟩ = some vB := L.box.at_ rfl
  have HB := hidden L.blocks
  rw [← hc] at HB
  have HL := hidden L
  have HC := hidden hc
  have hcn : c ≤ 1000000 := by omega
  clear L hc hR hR0
  go_enter Try.func9, Try.ntmps9
  go_wp2_with (first | (go_at_call 16; refine hd.mono ?_; rintro e w1 ⟨rfl, hw1⟩; rw [hw1]; clear hw1 w1) | (at_builtin; refine wpList_more rfl (.tmp 9) (.tmp 10) 50 54 (.slice none 0 0) 1 24 Try.underlying50 infoD rfl (by decide) (by decide) rfl w vB c vs.reverse [.slice none 0 0] _ rfl rfl HB.out (by omega) rfl rfl (by simp [Value.oneCell']) ?_; intro av cv w1 hown hgrow hwh; have HP1 : Held w1 p 52 #[.map (some b), vB, vK] := HL.out.box.block (hgrow.block p HL.out.box.lt (fun e => own_ne HB.out HL.out.box (by decide) e.symm)); have g1 : w1.cell? ⟨p, 1, none⟩ = some vB := HP1.at_ rfl; have f1 := HP1.frozen 1))
  go_end0
  have L := HL.out
  have hc := HC.out
  obtain ⟨v', hv'⟩ : ∃ v', v' = Value.slice av (c + 1) cv := ⟨_, rfl⟩
  rw [← hv'] at hown hwh ⊢
  clear hv'
  have hgp := grown_setCell w1 p 1 v'
  have h2 : Held (w1.setCell ⟨p, 1, none⟩ v') p 52 #[.map (some b), v', vK] := HP1.set 1 v'
  obtain ⟨w2, hw2⟩ : ∃ w2, w2 = w1.setCell ⟨p, 1, none⟩ v' := ⟨_, rfl⟩
  rw [← hw2] at hgp h2 ⊢
  have hpv : v'.ownBlock ≠ some p := own_ne hown HP1 (by decide)
  have hsz : w.heap.size ≤ w2.heap.size := Nat.le_trans hgrow.size hgp.size
  have hkeep : ∀ k, k < w.heap.size → k ≠ p → vB.ownBlock ≠ some k → w2.heap[k]? = w.heap[k]? := fun k hk h3 h4 => (hgp.block k (Nat.lt_of_lt_of_le hk hgrow.size) (fun e => h3 (by injection e))).trans (hgrow.block k hk (fun e => h4 e.symm))
  refine ⟨rfl, fun k => F k ∨ (w.heap.size ≤ k ∧ k < w2.heap.size), ⟨b, n, v', vK, .slice none 0 0 :: vs, ?_⟩, ⟨hgp.os.trans hgrow.os, hgp.tape.trans hgrow.tape, hgp.output.trans hgrow.output, hsz, fun k hk hF => hkeep k hk (fun e => hF (e ▸ L.fp)) (fun e => hF (L.fB k e))⟩, fun k hk => hk.imp id (fun h => h.1)⟩
  refine ⟨h2, (L.map.block (hkeep b L.map.lt (fun e => L.map.ne L.box e.symm) (fun e => ?_))).congr (fun s _ => (sees_open R s).symm), ?_, own_same L.kinds (fun k hk => hkeep k (L.lt k (L.fK k hk)) (fun e => own_ne L.kinds L.box (by decide) (e ▸ hk)) (fun e => ?_)), ⟨World.ownsRow_nil _ _ _ _, by simp [Value.ownBlock], L.rows.same fun u hu k hk => hkeep k (L.lt k (L.fR u hu k hk)) (fun e => L.rows.ne L.box (by decide) u hu (e ▸ hk)) (fun e => ?_)⟩, ?_, ?_, by simp, ?_, .inl L.fp, .inl L.fb, ?_, fun k hk => .inl (L.fK k hk), ?_⟩
  · obtain ⟨cur, hcur⟩ := own_block L.blocks e
    exact L.map.ne hcur rfl
  · rw [List.length_cons, List.reverse_cons, ← hc]
    exact own_same hown fun k hk => hgp.block k (hown.lt k hk).2 (fun e => hpv (by rw [hk, e]))
  · obtain ⟨cur, hcur⟩ := own_block L.blocks e
    exact own_ne L.kinds hcur (by decide) hk
  · obtain ⟨cur, hcur⟩ := own_block L.blocks e
    exact L.rows.ne hcur (by decide) u hu hk
  · intro c hc d hd
    rcases List.mem_cons.1 hc with rfl | hc
    · cases hd
    · exact L.fine c hc d hd
  · have := L.room
    unfold total at this ⊢
    simpa using this
  · intro k hk
    rcases hk with hk | hk
    · exact Nat.lt_of_lt_of_le (L.lt k hk) hsz
    · exact hk.2
  · intro k hk
    rcases hwh k hk with h3 | h3
    · exact .inl (L.fB k h3)
    · exact .inr ⟨h3, Nat.lt_of_lt_of_le (hown.lt k hk).2 hgp.size⟩
  · intro u hu k hk
    rcases List.mem_cons.1 hu with rfl | hu
    · simp [Value.ownBlock] at hk
    · exact .inl (L.fR u hu k hk)
/-- nothing is opened where none is -/
theorem open_nil (w : World) : Calls Try.prog 9 #[.pointer none] w fun e w' => e = .returned (.tuple #[]) ∧ w' = w := by
  have hd := depth_nil w
  go_enter Try.func9, Try.ntmps9
  go_wp2_with (go_at_call 16; refine hd.mono ?_; rintro e w1 ⟨rfl, hw1⟩; rw [hw1]; clear hw1 w1)
  go_end0
  exact ⟨rfl, rfl⟩
theorem open_zero {w : World} {p : Nat} (H : Held w p 52 zcs) : Calls Try.prog 9 #[.pointer (some ⟨p, 0, none⟩)] w fun e w' => e = .returned (.tuple #[]) ∧ w' = w := by
  have hd := depth_zero H
  clear H
  go_enter Try.func9, Try.ntmps9
  go_wp2_with (go_at_call 16; refine hd.mono ?_; rintro e w1 ⟨rfl, hw1⟩; rw [hw1]; clear hw1 w1)
  go_end0
  exact ⟨rfl, rfl⟩
end Go.Proofs.Ytncbkedfodaabaa
