/- Close: the innermost block ends, with its names. -/
import Derived.Test.YtncbkedfodaabaaScopeNew
import Derived.StillTailTactics
namespace Go.Proofs.Ytncbkedfodaabaa
open Go.RowKit
set_option linter.unusedVariables false

/-- what each name means once the first k names of the block are struck out -/
def part (b : List Dc) (R : List (List Dc)) (k : Nat) (s : ByteArray) : Nat × Nat × Nat := if ∃ d ∈ b.take k, d.nm = s then Sees R s else Sees (b :: R) s
theorem part_start (b : List Dc) (R : List (List Dc)) : part b R 0 = Sees (b :: R) := by
  funext s
  unfold part
  simp
theorem part_end (b : List Dc) (R : List (List Dc)) : part b R b.length = Sees R := by
  funext s
  unfold part
  rw [List.take_length]
  split
  · rfl
  · rename_i h
    exact sees_out h
theorem part_next (b : List Dc) (R : List (List Dc)) {k : Nat} {d : Dc} (hd : b[k]? = some d) : upd (part b R k) d.nm (Sees R d.nm) = part b R (k + 1) := by
  obtain ⟨hk, hd⟩ := List.getElem?_eq_some_iff.1 hd
  funext s
  unfold upd part
  rw [List.take_succ_eq_append_getElem hk, hd]
  by_cases h : s = d.nm
  · subst h
    rw [if_pos rfl, if_pos ⟨d, by simp, rfl⟩]
  · rw [if_neg h]
    by_cases h1 : ∃ e ∈ b.take k, e.nm = s
    · obtain ⟨e, he, h2⟩ := h1
      rw [if_pos ⟨e, he, h2⟩, if_pos ⟨e, by simp [he], h2⟩]
    · rw [if_neg h1, if_neg]
      rintro ⟨e, he, h2⟩
      rcases List.mem_append.1 he with he | he
      · exact h1 ⟨e, he, h2⟩
      · simp at he
        subst he
        exact h h2.symm
theorem close_one {w : World} {p : Nat} {F : Nat → Prop} {b : List Dc} {ks : List Nat} (H : IsS w p F [b] ks) :
    Calls Try.prog 11 #[.pointer (some ⟨p, 0, none⟩)] w fun e w' => e = .returned (.bool false) ∧ w' = w := by
  have hd := depth_any H
  clear H
  go_enter Try.func11, Try.ntmps11
  go_wp2_with (go_at_call 16; refine hd.mono ?_; rintro e w1 ⟨rfl, hw1⟩; rw [hw1]; clear hw1 w1)
  go_ret
  exact ⟨rfl, rfl⟩
theorem close_nil (w : World) : Calls Try.prog 11 #[.pointer none] w fun e w' => e = .returned (.bool false) ∧ w' = w := by
  have hd := depth_nil w
  go_enter Try.func11, Try.ntmps11
  go_wp2_with (go_at_call 16; refine hd.mono ?_; rintro e w1 ⟨rfl, hw1⟩; rw [hw1]; clear hw1 w1)
  go_ret
  exact ⟨rfl, rfl⟩
theorem close_zero {w : World} {p : Nat} (H : Held w p 52 zcs) : Calls Try.prog 11 #[.pointer (some ⟨p, 0, none⟩)] w fun e w' => e = .returned (.bool false) ∧ w' = w := by
  have hd := depth_zero H
  clear H
  go_enter Try.func11, Try.ntmps11
  go_wp2_with (go_at_call 16; refine hd.mono ?_; rintro e w1 ⟨rfl, hw1⟩; rw [hw1]; clear hw1 w1)
  go_ret
  exact ⟨rfl, rfl⟩
theorem grown_two {a b c : World} {g : Nat} (h : a.grownBy b (some g)) (h' : b.grownBy c (some g)) : a.grownBy c (some g) :=
  ⟨h'.os.trans h.os, h'.tape.trans h.tape, h'.output.trans h.output, Nat.le_trans h.size h'.size, fun k hk hne => (h'.block k (Nat.lt_of_lt_of_le hk h.size) hne).trans (h.block k hk hne)⟩
/-- the cells of a declaration in its row -/
theorem row_at {w : World} {R : List (List Dc)} {b0 : List Dc} {g cap : Nat} (h : w.ownsRow 0 58 4 (.slice (some ⟨g, 0, none⟩) b0.length cap) b0.length (dcl R b0)) {k : Nat} {d : Dc} (hd : b0[k]? = some d) :
    w.cell? ⟨g, k * 4, none⟩ = some (.string d.nm) ∧ w.cell? ⟨g, k * 4 + 1, none⟩ = some (.int .i64 ((Sees R d.nm).1 : Int)) ∧ w.cell? ⟨g, k * 4 + 2, none⟩ = some (.int .i64 ((Sees R d.nm).2.1 : Int)) ∧ w.cell? ⟨g, k * 4 + 3, none⟩ = some (.int .i64 ((Sees R d.nm).2.2 : Int)) := by
  have hc : ∀ j u, j < 4 → (dcv R d)[j]? = some u → w.cell? ⟨g, k * 4 + j, none⟩ = some u := by
    intro j u hj hu
    have := h.cells (g := g) rfl (k * 4 + j) u (by rw [dcl_get R b0 k j d hd hj]; exact hu)
    rw [add_zero_at] at this
    exact this
  exact ⟨hc 0 _ (by omega) rfl, hc 1 _ (by omega) rfl, hc 2 _ (by omega) rfl, hc 3 _ (by omega) rfl⟩
set_option maxRecDepth 100000 in
theorem close_two {w : World} {p : Nat} {F : Nat → Prop} {b0 c0 : List Dc} {R : List (List Dc)} {ks : List Nat} (H : IsS w p F (b0 :: c0 :: R) ks) (hR : R.length ≤ 1000000) (hks : ks.length ≤ 1000000) :
    Calls Try.prog 11 #[.pointer (some ⟨p, 0, none⟩)] w fun e w' => e = .returned (.bool true) ∧ ∃ F', IsS w' p F' (c0 :: R) ks ∧ Tn F w w' ∧ Grew F F' w := by
  have hd := depth_any H
  obtain ⟨b, n, vB, vK, vs, L⟩ := H
  obtain ⟨v, us, rfl⟩ : ∃ v us, vs = v :: us := by
    cases vs with
    | nil => exact L.rows.elim
    | cons v us => exact ⟨v, us, rfl⟩
  obtain ⟨m, hm⟩ : ∃ m, m = R.length + 1 := ⟨_, rfl⟩
  have hm1 : (b0 :: c0 :: R).length = m + 1 := by simp [hm]
  have hus : us.length = m := by have := L.rows.length; simp at this; omega
  have hB := L.blocks
  rw [hm1] at hB hd
  have hj : (v :: us).reverse[m]? = some v := by rw [List.reverse_cons, List.getElem?_append_right (by rw [List.length_reverse]; omega), List.length_reverse, hus]; simp
  obtain ⟨gB, cB, rfl, hcB, cv, curB, hgB⟩ := own_cell hB hj
  obtain ⟨av, capv, rfl, hcv⟩ := own_len L.rows.1
  obtain ⟨q, hq⟩ : ∃ q, q = b0.length := ⟨_, rfl⟩
  have hqn : q ≤ 2000000 := by have := L.room; rw [total, List.map_cons, List.sum_cons] at this; omega
  have p0 : w.cell? ⟨p, 0, none⟩ = some (.map (some b)) := L.box.at_ rfl
  have p1 : w.cell? ⟨p, 1, none⟩ = some (.slice (some ⟨gB, 0, none⟩) (m + 1) cB) := L.box.at_ rfl
  have HL := hidden L
  have HB := hidden hB
  have HM := hidden hm
  have HMB := hidden hgB
  have hml : (m : Int) < ((m + 1 : Nat) : Int) := by omega
  have hmt : ¬ ((m + 1 : Nat) : Int) ≤ 1 := by omega
  have hmb : m ≤ 1000001 := by omega
  rw [← hq] at cv
  have HQ := hidden hq
  have HCV := hidden hcv
  have HCB := hidden hcB
  have HR := hidden HL.out.rows.1
  clear L hB hm hm1 hus hj hgB hcB hq hcv
  go_enter Try.func11, Try.ntmps11
  go_wp2_with (go_at_call 16; refine hd.mono ?_; rintro e w1 ⟨rfl, hw1⟩; rw [hw1]; clear hw1 w1)
  have HC0 := hidden cv
  clear cv
  go_loopw [23] (fun i wr => ∃ k : Nat, k ≤ q ∧ i = .int .i64 (k : Int) ∧ Hid (MapIs wr b (n + k) (part b0 (c0 :: R) k)) ∧ Hid (w.grownBy wr (some b))) (fun i _ => q - (intOf i).toNat)
  case atStart => exact ⟨0, by omega, rfl, hidden (by rw [part_start]; exact HL.out.map), hidden ⟨rfl, rfl, rfl, Nat.le_refl _, fun _ _ _ => rfl⟩⟩
  case round =>
    obtain ⟨k, hk, rfl, HMP, HG⟩ := hrel
    by_cases hkn : k < q
    · obtain ⟨d, hdk⟩ : ∃ d, b0[k]? = some d := ⟨_, List.getElem?_eq_getElem (by have := HQ.out; omega)⟩
      obtain ⟨g, rfl⟩ : ∃ g, av = some ⟨g, 0, none⟩ := by
        rcases HR.out.2 with ⟨h1, h2⟩ | ⟨g, cap, cur, h1, _⟩
        · have := HQ.out; omega
        · injection h1 with h1; exact ⟨g, h1⟩
      have hrow : wr.ownsRow 0 58 4 (.slice (some ⟨g, 0, none⟩) b0.length capv) b0.length (dcl (c0 :: R) b0) := HR.out.kept HG.out (.inr fun e => by
        obtain ⟨cur, hcur⟩ := own_block HR.out e
        exact HL.out.map.ne hcur rfl)
      obtain ⟨y0, y1, y2, y3⟩ := row_at hrow hdk
      clear hrow
      have hpb : some p ≠ some b := fun e => HL.out.map.ne HL.out.box (by injection e)
      have r0 : wr.cell? ⟨p, 0, none⟩ = some (.map (some b)) := HG.out.cell p0 hpb
      obtain ⟨x, hx⟩ : ∃ x, x = Sees (c0 :: R) d.nm := ⟨_, rfl⟩
      rw [← hx] at y1 y2 y3
      obtain ⟨x1, x2, x3⟩ := x
      have hds : d.nm.size ≤ maxLen := (HL.out.fine b0 (by simp) d (List.mem_of_getElem? hdk)).1
      have hki : (k : Int) < (q : Int) := by omega
      have HX := hidden hx
      have HDS := hidden hds
      have HDK := hidden hdk
      clear hx hds hdk
      go_wp2_with fail
      obtain ⟨cs, hcs⟩ : ∃ cs : Array Value, cs = #[.string d.nm, .int .i64 (x1 : Int), .int .i64 (x2 : Int), .int .i64 (x3 : Int)] := ⟨_, rfl⟩
      obtain ⟨A, hA⟩ : ∃ A, A = wr.heap.size := ⟨_, rfl⟩
      obtain ⟨w3, hw3⟩ : ∃ w3, w3 = wr.alloc (.cells cs 58) := ⟨_, rfl⟩
      rw [← hcs, ← hw3, ← hA]
      have HH := hidden (show Held w3 A 58 cs by rw [hw3, hA]; exact Held.new _ _ _)
      have HG3 := hidden (show wr.grownBy w3 (some b) by rw [hw3]; exact World.grownBy_alloc _ _ _)
      have HM3 := hidden (show MapIs w3 b (n + k) (part b0 (c0 :: R) k) by rw [hw3]; exact HMP.out.kept (World.grownBy_alloc _ _ none) (by simp))
      have z0 : w3.cell? ⟨p, 0, none⟩ = some (.map (some b)) := HG3.out.cell r0 hpb
      have q0 : w3.cell? ⟨A, 0, none⟩ = some (.string d.nm) := HH.out.at_ (by rw [hcs]; rfl)
      have HCS := hidden hcs
      have HAA := hidden hA
      clear hw3 hcs hA y0 y1 y2 y3 r0
      have hkx : ((x2 : Int) != 0) = !decide (x2 = 0) := by by_cases h : x2 = 0 <;> simp [h]
      go_still_tail 6, (by kernel_rfl)
      change wpList _ _ _ _ _ w3.drew
      obtain ⟨w4, hw4⟩ : ∃ w4, w4 = w3.drew := ⟨_, rfl⟩
      rw [← hw4]
      have HH4 := hidden (show Held w4 A 58 cs by rw [hw4]; exact HH.out.drew)
      have HM4 := hidden (show MapIs w4 b (n + k) (part b0 (c0 :: R) k) by rw [hw4]; exact HM3.out)
      have HG4 := hidden (show wr.grownBy w4 (some b) by rw [hw4]; exact ⟨HG3.out.os, HG3.out.tape, HG3.out.output, HG3.out.size, HG3.out.block⟩)
      clear hw4 z0 q0 HH HG3 HM3 w3
      by_cases hk0 : x2 = 0
      · have hkx0 : ((x2 : Int) != 0) = false := by simp [hk0]
        have HK0 := hidden hk0
        clear hkx hk0
        go_wp2_with (at_delete; refine wpList_strike rfl _ _ rfl b (n + k) _ rfl HM4.out d.nm HDS.out rfl ?_; intro w5 hm5 hg5; have HH5 := hidden (show Held w5 A 58 cs from HH4.out.block (hg5.block A HH4.out.lt (fun e => HM4.out.ne HH4.out (by injection e)))); have q5 : w5.cell? ⟨A, 2, none⟩ = some (.int .i64 (x2 : Int)) := HH5.out.at_ (by rw [HCS.out]; rfl))
        go_roundw
        case rel =>
          refine ⟨k + 1, by omega, by go_num, hidden ?_, hidden (grown_two HG.out (grown_two HG4.out hg5))⟩
          have h0 : (0, 0, 0) = Sees (c0 :: R) d.nm := by
            refine (sees_kind (HL.out.fine.tail) d.nm ?_).symm
            rw [← HX.out]; exact HK0.out
          rw [h0, part_next b0 (c0 :: R) HDK.out] at hm5
          exact hm5.mono (by omega)
        case measure => simp [intOf]; omega
      · have hkx1 : ((x2 : Int) != 0) = true := by simp [hk0]
        clear hkx hk0
        go_wp2_with (at_delete; refine wpList_strike rfl _ _ rfl b (n + k) _ rfl HM4.out d.nm HDS.out rfl ?_; intro w5 hm5 hg5; have HH5 := hidden (show Held w5 A 58 cs from HH4.out.block (hg5.block A HH4.out.lt (fun e => HM4.out.ne HH4.out (by injection e)))); have q5 : w5.cell? ⟨A, 2, none⟩ = some (.int .i64 (x2 : Int)) := HH5.out.at_ (by rw [HCS.out]; rfl))
        have HM5 := hidden hm5
        have HG5 := hidden hg5
        have z5 : w5.cell? ⟨p, 0, none⟩ = some (.map (some b)) := hg5.cell (HG4.out.cell (HG.out.cell p0 hpb) hpb) hpb
        have q50 : w5.cell? ⟨A, 0, none⟩ = some (.string d.nm) := HH5.out.at_ (by rw [HCS.out]; rfl)
        have q51 : w5.cell? ⟨A, 1, none⟩ = some (.int .i64 (x1 : Int)) := HH5.out.at_ (by rw [HCS.out]; rfl)
        have q53 : w5.cell? ⟨A, 3, none⟩ = some (.int .i64 (x3 : Int)) := HH5.out.at_ (by rw [HCS.out]; rfl)
        clear hm5 hg5
        go_still_tail 8, (by kernel_rfl)
        change wpList _ _ _ _ _ w5.drew
        obtain ⟨w6, hw6⟩ : ∃ w6, w6 = w5.drew := ⟨_, rfl⟩
        rw [← hw6]
        have HM6 := hidden (show MapIs w6 b (n + k) (upd (part b0 (c0 :: R) k) d.nm (0, 0, 0)) by rw [hw6]; exact HM5.out)
        have HG6 := hidden (show w5.grownBy w6 (some b) by rw [hw6]; exact ⟨rfl, rfl, rfl, Nat.le_refl _, fun _ _ _ => rfl⟩)
        clear hw6 z5 q50 q51 q53 q5
        have hnk := HL.out.room
        have hnk : n + k < maxLen := by
          have h1 := HL.out.room
          have h2 := HQ.out
          rw [total, List.map_cons, List.sum_cons] at h1
          unfold maxLen
          omega
        have HNK := hidden hnk
        clear hnk
        go_wp2_with (at_mapUpdate; refine wpList_put rfl _ _ _ rfl b (n + k) _ rfl HM6.out HNK.out d.nm HDS.out (x1, x2, x3) rfl rfl ?_; intro w7 hm7 hg7)
        go_roundw
        case rel =>
          refine ⟨k + 1, by omega, by go_num, hidden ?_, hidden (grown_two HG.out (grown_two HG4.out (grown_two HG5.out (grown_two HG6.out hg7))))⟩
          refine MapIs.congr (show MapIs w7 b (n + (k + 1)) _ from hm7) fun s _ => ?_
          rw [← part_next b0 (c0 :: R) HDK.out, ← HX.out]
          unfold upd
          split
          · rfl
          · rfl
        case measure => simp [intOf]; omega
    · have hkq : k = q := by omega
      subst hkq
      clear hkn hk
      have r1 : wr.cell? ⟨p, 1, none⟩ = some (.slice (some ⟨gB, 0, none⟩) (m + 1) cB) := HG.out.cell p1 (fun e => HL.out.map.ne HL.out.box (by injection e))
      have HBr := hidden (show Held wr gB 54 curB from HMB.out.block (HG.out.block gB HMB.out.lt (fun e => HL.out.map.ne HMB.out (by injection e))))
      have r2 : wr.cell? ⟨gB, m, none⟩ = some (.slice av k capv) := HG.out.cell HC0.out (fun e => HL.out.map.ne HMB.out (by injection e))
      have f2 : wr.frozen? ⟨gB, m, none⟩ = false := HBr.out.frozen m
      have hgp : gB ≠ p := fun e => by
        have h1 := HMB.out
        unfold Held at h1
        rw [e] at h1
        have h2 := HL.out.box
        unfold Held at h2
        rw [h1] at h2
        injection h2 with h2
        injection h2 with _ h2
        exact absurd h2 (by decide)
      have hpg : p ≠ gB := Ne.symm hgp
      have hmc : (m : Int) ≤ (cB : Int) := by have := HCB.out; omega
      obtain ⟨w8, hw8⟩ : ∃ w8, w8 = wr.setCell ⟨gB, m, none⟩ (.slice none 0 0) := ⟨_, rfl⟩
      have HPr : Held wr p 52 #[.map (some b), .slice (some ⟨gB, 0, none⟩) (m + 1) cB, vK] := HL.out.box.block (HG.out.block p HL.out.box.lt (fun e => HL.out.map.ne HL.out.box (by injection e)))
      have HP8 := hidden (show Held w8 p 52 #[.map (some b), .slice (some ⟨gB, 0, none⟩) (m + 1) cB, vK] by rw [hw8]; exact HPr.off hpg _ _)
      have HG8 := hidden (show wr.grownBy w8 (some gB) by rw [hw8]; exact grown_setCell _ _ _ _)
      have s1 : w8.cell? ⟨p, 1, none⟩ = some (.slice (some ⟨gB, 0, none⟩) (m + 1) cB) := HP8.out.at_ rfl
      have s2 : w8.frozen? ⟨p, 1, none⟩ = false := HP8.out.frozen 1
      have HW8 := hidden hw8
      rw [hw8] at s1 s2
      clear HPr hw8
      go_wp2_with fail
      rw [← HW8.out]
      go_ret
      have L := HL.out
      have HPf : Held (w8.setCell ⟨p, 1, none⟩ (.slice (some ⟨gB, 0, none⟩) m cB)) p 52 #[.map (some b), .slice (some ⟨gB, 0, none⟩) m cB, vK] := HP8.out.set 1 _
      have hgf := grown_setCell w8 p 1 (.slice (some ⟨gB, 0, none⟩) m cB)
      obtain ⟨wf, hwf⟩ : ∃ wf, wf = w8.setCell ⟨p, 1, none⟩ (.slice (some ⟨gB, 0, none⟩) m cB) := ⟨_, rfl⟩
      rw [← hwf] at HPf hgf ⊢
      have hsz : w.heap.size ≤ wf.heap.size := Nat.le_trans HG.out.size (Nat.le_trans HG8.out.size hgf.size)
      have hkeep : ∀ j, j < w.heap.size → j ≠ b → j ≠ gB → j ≠ p → wf.heap[j]? = w.heap[j]? := fun j hj h1 h2 h3 =>
        (hgf.block j (Nat.lt_of_lt_of_le hj (Nat.le_trans HG.out.size HG8.out.size)) (fun e => h3 (by injection e))).trans
          ((HG8.out.block j (Nat.lt_of_lt_of_le hj HG.out.size) (fun e => h2 (by injection e))).trans (HG.out.block j hj (fun e => h1 (by injection e))))
      have hbB : b ≠ gB := fun e => L.map.ne HMB.out e.symm
      have hbp : b ≠ p := fun e => L.map.ne L.box e.symm
      refine ⟨rfl, F, ⟨b, n + k, .slice (some ⟨gB, 0, none⟩) m cB, vK, us, ?_⟩, ⟨hgf.os.trans (HG8.out.os.trans HG.out.os), hgf.tape.trans (HG8.out.tape.trans HG.out.tape), hgf.output.trans (HG8.out.output.trans HG.out.output), hsz, fun j hj hF => hkeep j hj (fun e => hF (e ▸ L.fb)) (fun e => hF (e ▸ L.fB gB rfl)) (fun e => hF (e ▸ L.fp))⟩, Grew.refl F w⟩
      refine ⟨HPf, ?_, ?_, own_same L.kinds (fun j hj => hkeep j (L.lt j (L.fK j hj)) (fun e => ?_) (fun e => own_ne L.kinds HMB.out (by decide) (e ▸ hj)) (fun e => own_ne L.kinds L.box (by decide) (e ▸ hj))), L.rows.2.2.same (fun u hu j hj => hkeep j (L.lt j (L.fR u (List.mem_cons_of_mem _ hu) j hj)) (fun e => ?_) (fun e => L.rows.ne HMB.out (by decide) u (List.mem_cons_of_mem _ hu) (e ▸ hj)) (fun e => L.rows.ne L.box (by decide) u (List.mem_cons_of_mem _ hu) (e ▸ hj))), L.fine.tail, ?_, by simp, fun j hj => Nat.lt_of_lt_of_le (L.lt j hj) hsz, L.fp, L.fb, fun j hj => L.fB j hj, L.fK, fun u hu j hj => L.fR u (List.mem_cons_of_mem _ hu) j hj⟩
      · have hM := HMP.out
        rw [HQ.out, part_end, ← HQ.out] at hM
        refine (hM.block ?_)
        rw [hgf.block b (Nat.lt_of_lt_of_le hM.lt HG8.out.size) (fun e => hbp (by injection e))]
        exact HG8.out.block b hM.lt (fun e => hbB (by injection e))
      · have h1 : wr.ownsRow 0 54 1 (.slice (some ⟨gB, 0, none⟩) (m + 1) cB) (m + 1) (Value.slice av b0.length capv :: us).reverse := HB.out.kept HG.out (.inr fun e => L.map.ne HMB.out (by simpa [Value.ownBlock] using e))
        have h2 := own_set (u := .slice none 0 0) h1 rfl (show m < (m + 1) * 1 by omega)
        rw [← HW8.out] at h2
        have h3 := own_less h2 (Nat.le_succ m)
        have hml : us.reverse.length = m := by rw [List.length_reverse]; have := L.rows.length; have := HM.out; simp at *; omega
        have h4 : ((Value.slice av b0.length capv :: us).reverse.set m (.slice none 0 0)).take (m * 1) = us.reverse := by
          rw [List.reverse_cons, Nat.mul_one, List.set_append_right _ _ (by omega), List.take_append_of_le_length (by omega), List.take_of_length_le (by omega)]
        rw [h4] at h3
        have h5 : (c0 :: R).length = m := by have := HM.out; simp; omega
        rw [h5]
        exact own_same h3 fun j hj => hgf.block j ((h3.lt j hj).2) (fun e => by
          simp [Value.ownBlock] at hj
          injection e with e
          omega)
      · obtain ⟨cur, hcur⟩ := own_block L.kinds hj
        exact L.map.ne hcur e
      · obtain ⟨nn, xs, h1⟩ := L.rows.each u (List.mem_cons_of_mem _ hu)
        obtain ⟨cur, hcur⟩ := own_block h1 hj
        exact L.map.ne hcur e
      · have h1 := L.room
        have h2 := HQ.out
        rw [total, List.map_cons, List.sum_cons] at h1
        unfold total
        omega
/-- the innermost one ends, if there is another -/
theorem close_any {w : World} {p : Nat} {F : Nat → Prop} {R : List (List Dc)} {ks : List Nat} (H : IsS w p F R ks) (hR : R.length ≤ 1000000) (hks : ks.length ≤ 1000000) :
    Calls Try.prog 11 #[.pointer (some ⟨p, 0, none⟩)] w fun e w' => e = .returned (.bool (decide (1 < R.length))) ∧ ∃ F', IsS w' p F' (closed R) ks ∧ Tn F w w' ∧ Grew F F' w := by
  match R, H with
  | [], H => exact absurd rfl H.some_
  | [b], H =>
    refine (close_one H).mono ?_
    rintro e w' ⟨rfl, rfl⟩
    exact ⟨rfl, F, H, Tn.below (Below.refl _ _), Grew.refl F _⟩
  | b :: c :: R, H =>
    refine (close_two H (by simp at hR; omega) hks).mono ?_
    rintro e w' ⟨rfl, F', h⟩
    refine ⟨?_, F', h⟩
    simp
end Go.Proofs.Ytncbkedfodaabaa
