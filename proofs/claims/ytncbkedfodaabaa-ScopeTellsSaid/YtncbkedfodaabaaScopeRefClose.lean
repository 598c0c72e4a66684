/- The reference: Close. -/
import Derived.Test.YtncbkedfodaabaaScopeRef
import Derived.Test.YtncbkedfodaabaaGenBig
import Derived.Deep.QuietTactic
import Derived.BigQuiet
import Derived.Lib.Walk
namespace Go.Proofs.Ytncbkedfodaabaa
open Go.RowKit
set_option linter.unusedVariables false

theorem infoX : (Try.prog.info? 42).map (fun i => (i.zero, i.size, i.bytes)) = some (some (.agg #[.string ⟨#[]⟩, .int .i64 0, .int .i64 0, .int .i64 0]), 4, 40) := by kernel_rfl
/-- those further out, of the first k -/
def outer (l : List Va) (d k : Nat) : List Va := (l.take k).filter fun v => decide (v.bk < d)
theorem outer_in {l : List Va} {d k : Nat} (hk : k < l.length) (h : (l.getD k default).bk < d) : outer l d (k + 1) = outer l d k ++ [l.getD k default] := by
  have hg : l.getD k default = l[k] := by rw [List.getD_eq_getElem?_getD, List.getElem?_eq_getElem hk]; rfl
  unfold outer
  rw [hg] at h ⊢
  rw [List.take_succ_eq_append_getElem hk, List.filter_append]
  simp [h]
theorem outer_off {l : List Va} {d k : Nat} (hk : k < l.length) (h : ¬ (l.getD k default).bk < d) : outer l d (k + 1) = outer l d k := by
  have hg : l.getD k default = l[k] := by rw [List.getD_eq_getElem?_getD, List.getElem?_eq_getElem hk]; rfl
  unfold outer
  rw [hg] at h
  rw [List.take_succ_eq_append_getElem hk, List.filter_append]
  simp [h]
theorem outer_le (l : List Va) (d k : Nat) : (outer l d k).length ≤ l.length := by
  unfold outer
  exact Nat.le_trans (List.length_filter_le _ _) (by rw [List.length_take]; omega)
/-- the worlds in which all that is read ahead of the append is as it is -/
structure Seen6 (A0 A2 gL o : Nat) (vL vO : Value) (v : Va) where
  w : World
  c0 : w.cell? ⟨A0, 0, none⟩ = some vL
  c2 : w.cell? ⟨A2, 0, none⟩ = some vO
  y0 : w.cell? ⟨gL, o, none⟩ = some (.string v.nm)
  y1 : w.cell? ⟨gL, o + 1, none⟩ = some (.int .i64 (v.bk : Int))
  y2 : w.cell? ⟨gL, o + 2, none⟩ = some (.int .i64 (v.sl : Int))
  y3 : w.cell? ⟨gL, o + 3, none⟩ = some (.int .i64 (v.kd : Int))
theorem grown_three {a b c e : World} {g : Nat} (h : a.grownBy b (some g)) (h' : b.grownBy c (some g)) (h'' : c.grownBy e (some g)) : a.grownBy e (some g) :=
  ⟨h''.os.trans (h'.os.trans h.os), h''.tape.trans (h'.tape.trans h.tape), h''.output.trans (h'.output.trans h.output), Nat.le_trans h.size (Nat.le_trans h'.size h''.size),
    fun k hk hne => (h''.block k (Nat.lt_of_lt_of_le hk (Nat.le_trans h.size h'.size)) hne).trans ((h'.block k (Nat.lt_of_lt_of_le hk h.size) hne).trans (h.block k hk hne))⟩
set_option maxRecDepth 100000 in
set_option maxHeartbeats 4000000 in
theorem rclose_any {w : World} {N : Nat → Prop} {aL aK : Option Addr} {cL cK : Nat} {b0 c0 : List Dc} {R : List (List Dc)} {ks : List Nat} (H : IsX w N aL cL aK cK (b0 :: c0 :: R) ks) (hl : (flat (b0 :: c0 :: R)).length ≤ 1000) (hR : R.length ≤ 1000) :
    Calls Try.prog 10 #[xval aL cL aK cK (b0 :: c0 :: R) ks] w fun e w' => ∃ aL' cL', e = .returned (xval aL' cL' aK cK (c0 :: R) ks) ∧ IsX w' (fun g => N g ∨ w.heap.size ≤ g) aL' cL' aK cK (c0 :: R) ks ∧ Below w.heap.size w w' := by
  obtain ⟨l, hfl⟩ : ∃ l, l = flat (b0 :: c0 :: R) := ⟨_, rfl⟩
  have hout : outer l (R.length + 2) l.length = flat (c0 :: R) := by
    rw [hfl]
    unfold outer
    rw [List.take_length]
    exact flat_outer b0 (c0 :: R)
  have HV := H.vars
  unfold xval
  rw [← hfl] at HV hl ⊢
  obtain ⟨n, hn⟩ : ∃ n, n = l.length := ⟨_, rfl⟩
  rw [← hn] at hl hout ⊢
  obtain ⟨d, hd⟩ : ∃ d, d = R.length := ⟨_, rfl⟩
  rw [← hd] at hout
  rw [show ((b0 :: c0 :: R).length : Int) = (d : Int) + 2 by rw [hd]; simp; omega, show ((c0 :: R).length : Int) = (d : Int) + 1 by rw [hd]; simp]
  have hdb : d ≤ 1000 := by omega
  obtain ⟨kk, hkk⟩ : ∃ k, k = ks.length := ⟨_, rfl⟩
  rw [← hkk]
  have HVH := hidden HV
  have HN := hidden hn
  have HOUT := hidden hout
  have HH := hidden H
  obtain ⟨S, hS⟩ : ∃ S, S = w.heap.size := ⟨_, rfl⟩
  rw [← hS]
  have HS := hidden hS
  clear HV hn H hfl hd hkk hout hR hS
  go_enter Try.func10, Try.ntmps10
  go_wp2_with fail
  obtain ⟨D1, hD1⟩ : ∃ x : Int, x = (d : Int) + 2 - 1 := ⟨_, rfl⟩
  rw [← hD1]
  have HD1 := hidden hD1
  clear hD1
  obtain ⟨A1, hA1⟩ : ∃ A, A = w.heap.size + 1 := ⟨_, rfl⟩
  obtain ⟨A2, hA2⟩ : ∃ A, A = A1 + 1 := ⟨_, rfl⟩
  rw [← hA1, ← HS.out, ← hA2]
  obtain ⟨w1, hw1⟩ : ∃ w1, w1 = w.alloc (.cells #[.slice aL n cL, .slice aK kk cK, .int .i64 ((d : Int) + 2)] 29) := ⟨_, rfl⟩
  obtain ⟨w2, hw2⟩ : ∃ w2, w2 = w1.alloc (.cells #[.slice none 0 0, .slice none 0 0, .int .i64 0] 29) := ⟨_, rfl⟩
  obtain ⟨w3, hw3⟩ : ∃ w3, w3 = w2.alloc (.cells #[.slice none 0 0, .slice aK kk cK, .int .i64 D1] 29) := ⟨_, rfl⟩
  rw [← hw1, ← hw2, ← hw3]
  have e1 : w1.heap.size = S + 1 := by rw [hw1, World.size_alloc, HS.out]
  have e2 : w2.heap.size = S + 2 := by rw [hw2, World.size_alloc, e1]
  have eA1 : A1 = S + 1 := by rw [hA1, HS.out]
  have eA2 : A2 = S + 2 := by rw [hA2, eA1]
  have g0 : Held w3 S 29 #[.slice aL n cL, .slice aK kk cK, .int .i64 ((d : Int) + 2)] := by
    rw [hw3, hw2, hw1, HS.out]; exact ((Held.new _ _ _).alloc _).alloc _
  have g1 : Held w3 A1 29 #[.slice none 0 0, .slice none 0 0, .int .i64 0] := by
    rw [hw3, hw2, eA1, ← e1]; exact (Held.new _ _ _).alloc _
  have g2 : Held w3 A2 29 #[.slice none 0 0, .slice aK kk cK, .int .i64 D1] := by
    rw [hw3, eA2, ← e2]; exact Held.new _ _ _
  have hb3 : Below S w w3 := by
    rw [hw3, hw2, hw1, HS.out]
    exact (((Below.refl _ w).alloc (Nat.le_refl _) _).alloc (by simp) _).alloc (by simp; omega) _
  have HAA := hidden (And.intro eA1 eA2)
  have HG0 := hidden g0
  have HG1 := hidden g1
  have HG2 := hidden g2
  have HB3 := hidden hb3
  clear e1 e2 eA1 eA2 g0 g1 g2 hb3 hw1 hw2 hw3 hA1 hA2
  have H12 : S ≠ A1 ∧ S ≠ A2 ∧ A1 ≠ A2 := by have := HAA.out; omega
  obtain ⟨h01, h02, h12⟩ := H12
  have h01' := h01.symm
  have h02' := h02.symm
  have h12' := h12.symm
  go_loopw [4] (fun i wr => ∃ (k : Nat) (aO : Option Addr) (m cO : Nat), k ≤ n ∧ i = .int .i64 (k : Int) ∧ m ≤ 1000 ∧ Hid (m = (outer l (d + 2) k).length) ∧ Hid (wr.ownsRow 0 42 4 (.slice aO m cO) m (vcs (outer l (d + 2) k))) ∧ Hid (∀ g, (Value.slice aO m cO).ownBlock = some g → S ≤ g) ∧
    Hid (Held wr A2 29 #[.slice aO m cO, .slice aK kk cK, .int .i64 D1]) ∧ Hid (Held wr S 29 #[.slice aL n cL, .slice aK kk cK, .int .i64 ((d : Int) + 2)]) ∧ Hid (Held wr A1 29 #[.slice none 0 0, .slice none 0 0, .int .i64 0]) ∧ Hid (Below S w wr)) (fun i _ => n - (intOf i).toNat)
  case atStart => exact ⟨0, none, 0, 0, by omega, rfl, by omega, hidden (by simp [outer]), hidden (by simp only [outer, List.take_zero, List.filter_nil]; exact World.ownsRow_nil _ _ _ _), hidden (by intro g hg; simp [Value.ownBlock] at hg), HG2, HG0, HG1, HB3⟩
  case round =>
    obtain ⟨k, aO, m, cO, hk, rfl, hm1, HMM, HO, HOS, HX2, HX0, HX1, HB⟩ := hrel
    have x0 : wr.cell? ⟨S, 0, none⟩ = some (.slice aL n cL) := HX0.out.at_ rfl
    have x2 : wr.cell? ⟨S, 2, none⟩ = some (.int .i64 ((d : Int) + 2)) := HX0.out.at_ rfl
    by_cases hkn : k < n
    · have hki : (k : Int) < (n : Int) := by omega
      have hkl : k < l.length := by have := HN.out; omega
      have HVr : RdC wr N aL (vcs l) := HVH.out.below (by rw [HS.out] at HB; exact HB.out)
      obtain ⟨g, rfl, hgl, y0, y1, y2, y3⟩ := HVr.va hkl
      obtain ⟨v, hv⟩ : ∃ v, v = l.getD k default := ⟨_, rfl⟩
      rw [← hv] at y0 y1 y2 y3
      have HVV := hidden hv
      have HKL := hidden hkl
      clear hv HVr hkl
      by_cases hbd : v.bk < d + 2
      · have hbi : decide ((v.bk : Int) < (d : Int) + 2) = true := by simp; omega
        have HBD := hidden hbd
        clear hbd
        go_wp2_with fail
        go_quiet (fail)
        go_wp2_with fail
        obtain ⟨wq, hwq⟩ : ∃ wq, wq = (wr.drewN nq).drew := ⟨_, rfl⟩
        have HQ0 := hidden (show Held wq S 29 #[.slice (some ⟨g, 0, none⟩) n cL, .slice aK kk cK, .int .i64 ((d : Int) + 2)] by rw [hwq]; exact HX0.out)
        have HQ1 := hidden (show Held wq A1 29 #[.slice none 0 0, .slice none 0 0, .int .i64 0] by rw [hwq]; exact HX1.out)
        have HQ2 := hidden (show Held wq A2 29 #[.slice aO m cO, .slice aK kk cK, .int .i64 D1] by rw [hwq]; exact HX2.out)
        have HQO := hidden (show wq.ownsRow 0 42 4 (.slice aO m cO) m (vcs (outer l (d + 2) k)) by rw [hwq]; exact HO.out)
        have HQB := hidden (show Below S w wq by rw [hwq]; exact (HB.out.trans (below_drewN _ _ _)).drew)
        have hgq : g < wq.heap.size := by rw [hwq]; exact hgl
        have hgw : g < w.heap.size := by obtain ⟨g', hg', hg2, _⟩ := HVH.out (by rw [vcs_length]; have := HKL.out; omega); injection hg' with hg'; injection hg' with hg'; omega
        have HGS := hidden (show g < S by rw [HS.out]; exact hgw)
        have HY0 := hidden (show wq.cell? ⟨g, k * 4, none⟩ = some (.string v.nm) by rw [hwq]; exact y0)
        have HY1 := hidden (show wq.cell? ⟨g, k * 4 + 1, none⟩ = some (.int .i64 (v.bk : Int)) by rw [hwq]; exact y1)
        have HY2 := hidden (show wq.cell? ⟨g, k * 4 + 2, none⟩ = some (.int .i64 (v.sl : Int)) by rw [hwq]; exact y2)
        have HY3 := hidden (show wq.cell? ⟨g, k * 4 + 3, none⟩ = some (.int .i64 (v.kd : Int)) by rw [hwq]; exact y3)
        refine wp_region_big (F := fun w' => ∃ i : Seen6 S A2 g (k * 4) (.slice (some ⟨g, 0, none⟩) n cL) (.slice aO m cO) v, w' = i.w) 2 (by kernel_rfl) (by decide) ?_
        change wpF _ _ _ _ _ _ _ _ (wr.drewN nq).drew
        rw [← hwq]
        clear hwq x0 x2 y0 y1 y2 y3 HX0 HX1 HX2 HO HB hgl hgw hbi
        refine wpF_mask (m := 2) [true,true,true,true,true,true,true,false,false,false,false] (by intro c a d v w h; cases d <;> exact h) (by kernel_rfl) ⟨⟨wq, HQ0.out.at_ rfl, HQ2.out.at_ rfl, HY0.out, HY1.out, HY2.out, HY3.out⟩, rfl⟩ ?_
        have hne : Nonempty (Seen6 S A2 g (k * 4) (.slice (some ⟨g, 0, none⟩) n cL) (.slice aO m cO) v) := ⟨⟨wq, HQ0.out.at_ rfl, HQ2.out.at_ rfl, HY0.out, HY1.out, HY2.out, HY3.out⟩⟩
        have f0 : ∀ i : Seen6 S A2 g (k * 4) (.slice (some ⟨g, 0, none⟩) n cL) (.slice aO m cO) v, i.w.cell? ⟨S, 0, none⟩ = some (.slice (some ⟨g, 0, none⟩) n cL) := fun i => i.c0
        have f2 : ∀ i : Seen6 S A2 g (k * 4) (.slice (some ⟨g, 0, none⟩) n cL) (.slice aO m cO) v, i.w.cell? ⟨A2, 0, none⟩ = some (.slice aO m cO) := fun i => i.c2
        have f3 : ∀ i : Seen6 S A2 g (k * 4) (.slice (some ⟨g, 0, none⟩) n cL) (.slice aO m cO) v, i.w.cell? ⟨g, k * 4, none⟩ = some (.string v.nm) := fun i => i.y0
        have f4 : ∀ i : Seen6 S A2 g (k * 4) (.slice (some ⟨g, 0, none⟩) n cL) (.slice aO m cO) v, i.w.cell? ⟨g, k * 4 + 1, none⟩ = some (.int .i64 (v.bk : Int)) := fun i => i.y1
        have f5 : ∀ i : Seen6 S A2 g (k * 4) (.slice (some ⟨g, 0, none⟩) n cL) (.slice aO m cO) v, i.w.cell? ⟨g, k * 4 + 2, none⟩ = some (.int .i64 (v.sl : Int)) := fun i => i.y2
        have f6 : ∀ i : Seen6 S A2 g (k * 4) (.slice (some ⟨g, 0, none⟩) n cL) (.slice aO m cO) v, i.w.cell? ⟨g, k * 4 + 3, none⟩ = some (.int .i64 (v.kd : Int)) := fun i => i.y3
        simp only [leftOf]
        repeat (go_big_quiet_step (fail))
        refine wpQuiet_nil ?_
        clear f0 f2 f3 f4 f5 f6
        refine wpF_one 7 (by kernel_rfl) ?_
        simp only [List.drop_succ_cons, List.drop_zero, List.take_succ_cons, List.take_zero]
        go_wp2_with fail
        have a0 : ∀ o : Obj, (wq.alloc o).cell? ⟨S, 0, none⟩ = some (.slice (some ⟨g, 0, none⟩) n cL) := fun o => (HQ0.out.alloc o).at_ rfl
        have a2 : ∀ o : Obj, (wq.alloc o).cell? ⟨A2, 0, none⟩ = some (.slice aO m cO) := fun o => (HQ2.out.alloc o).at_ rfl
        have ay : ∀ (o : Obj) (i : Nat) (u : Value), wq.cell? ⟨g, i, none⟩ = some u → (wq.alloc o).cell? ⟨g, i, none⟩ = some u := fun o i u h => Lib.cell?_alloc_some _ h
        refine And.intro ⟨⟨_, a0 _, a2 _, ay _ _ _ HY0.out, ay _ _ _ HY1.out, ay _ _ _ HY2.out, ay _ _ _ HY3.out⟩, rfl⟩ ?_
        clear a0 a2 ay
        refine wpF_one 8 (by kernel_rfl) ?_
        simp only [List.drop_succ_cons, List.drop_zero, List.take_succ_cons, List.take_zero]
        have HN1 := hidden (show (vcv v).length = 4 from rfl)
        have HN2 := hidden (show ∀ u ∈ vcv v, u.oneCell' = true by simp [vcv, Value.oneCell'])
        have HN3 := hidden (show (#[.string v.nm, .int .i64 (v.bk : Int), .int .i64 (v.sl : Int), .int .i64 (v.kd : Int)] : Array Value) = (vcv v).toArray from rfl)
        go_wp2_with (at_builtin; refine wpList_more rfl (.tmp 28) (.tmp 34) 26 42 (.agg #[.string ⟨#[]⟩, .int .i64 0, .int .i64 0, .int .i64 0]) 4 40 Try.underlying26 infoX rfl (by decide) (by decide) rfl wq (.slice aO m cO) m _ (vcv v) _ rfl rfl HQO.out (by omega) HN3.out HN1.out HN2.out ?_; intro aO2 cO2 w5 hown5 hgrow5 hwh5)
        have hob : ∀ x t cs, Held wq x t cs → t = 29 → w5.heap[x]? = wq.heap[x]? := fun x t cs hx ht => hgrow5.block x hx.lt (fun e => own_ne HQO.out hx (by rw [ht]; decide) e.symm)
        have hP0 := HQ0.out.block (hob _ _ _ HQ0.out rfl)
        have hP1 := HQ1.out.block (hob _ _ _ HQ1.out rfl)
        have hP2 := HQ2.out.block (hob _ _ _ HQ2.out rfl)
        have hy5 : ∀ (i : Nat) (u : Value), wq.cell? ⟨g, i, none⟩ = some u → w5.cell? ⟨g, i, none⟩ = some u := fun i u h => hgrow5.cell h (fun e => by have h1 := HOS.out g e.symm; have := HGS.out; omega)
        refine And.intro ⟨⟨w5, hP0.at_ rfl, hP2.at_ rfl, hy5 _ _ HY0.out, hy5 _ _ HY1.out, hy5 _ _ HY2.out, hy5 _ _ HY3.out⟩, rfl⟩ ?_
        refine wpF_tail 9 (by kernel_rfl) ?_
        simp only [List.drop_succ_cons, List.drop_zero]
        have t1 : w5.cell? ⟨A2, 0, none⟩ = some (.slice aO m cO) := hP2.at_ rfl
        have t2 : w5.frozen? ⟨A2, 0, none⟩ = false := hP2.frozen 0
        have HP0 := hidden hP0
        have HP1 := hidden hP1
        have HP2 := hidden hP2
        have HO5 := hidden hown5
        have HG5 := hidden hgrow5
        have HW5 := hidden hwh5
        clear hP0 hP1 hP2 hown5 hgrow5 hwh5 hy5 hob hne
        go_wp2_with fail
        go_roundw
        case rel =>
          have hout1 := outer_in (d := d + 2) HKL.out (by rw [← HVV.out]; exact HBD.out)
          rw [← HVV.out] at hout1
          have hlm : m + 1 = (outer l (d + 2) (k + 1)).length := by rw [hout1, List.length_append, ← HMM.out]; rfl
          have hle := outer_le l (d + 2) (k + 1)
          have hml : m + 1 ≤ 1000 := by have := HN.out; omega
          refine ⟨k + 1, aO2, m + 1, cO2, by omega, by go_num, hml, hidden hlm, hidden ?_, hidden ?_, hidden (HP2.out.set 0 _), hidden (HP0.out.off h02 _ _), hidden (HP1.out.off h12 _ _), hidden ?_⟩
          · rw [hout1, vcs_app]
            refine own_same (show w5.ownsRow 0 42 4 (.slice aO2 (m + 1) cO2) (m + 1) (vcs (outer l (d + 2) k) ++ vcs [v]) by simpa [vcs] using HO5.out) fun j hj => ?_
            exact (grown_setCell w5 A2 0 _).block j (HO5.out.lt j hj).2 (fun e => own_ne HO5.out HP2.out (by decide) (by rw [hj]; exact e))
          · intro j hj
            rcases HW5.out j hj with h1 | h1
            · exact HOS.out j h1
            · exact Nat.le_trans (by have := HQB.out.size; have := HS.out; omega) h1
          · have hq1 : Below S wq w5 := ⟨HG5.out.os, HG5.out.tape, HG5.out.output, HG5.out.size, fun j hj => HG5.out.block j (by have := HQB.out.size; have := HS.out; omega) (fun e => by have := HOS.out j e.symm; omega)⟩
            have hq2 : Below S w5 (w5.setCell ⟨A2, 0, none⟩ (.slice aO2 (m + 1) cO2)) := ⟨rfl, rfl, rfl, by simp [World.setCell], fun j hj => Below.heap_setCell _ _ _ _ (fun e => by have := HAA.out; simp only at e; omega)⟩
            exact (HQB.out.trans hq1).trans hq2
        case measure => simp [intOf]; omega
      · have hbi : decide ((v.bk : Int) < (d : Int) + 2) = false := by simp; omega
        have HBD := hidden hbd
        clear hbd
        go_wp2_with fail
        go_quiet (fail)
        go_wp2_with fail
        go_roundw
        case rel => exact ⟨k + 1, aO, m, cO, by omega, by go_num, hm1, by rw [outer_off HKL.out (by rw [← HVV.out]; exact HBD.out)]; exact HMM, by rw [outer_off HKL.out (by rw [← HVV.out]; exact HBD.out)]; exact HO, HOS, HX2, HX0, HX1, hidden (HB.out.trans (below_drewN _ _ _))⟩
        case measure => simp [intOf]; omega
    · have hkq : k = n := by omega
      subst hkq
      have x1' : wr.cell? ⟨A2, 0, none⟩ = some (.slice aO m cO) := HX2.out.at_ rfl
      have x2' : wr.cell? ⟨A2, 1, none⟩ = some (.slice aK kk cK) := HX2.out.at_ rfl
      have x3' : wr.cell? ⟨A2, 2, none⟩ = some (.int .i64 D1) := HX2.out.at_ rfl
      have z1 : wr.cell? ⟨A1, 0, none⟩ = some (.slice none 0 0) := HX1.out.at_ rfl
      have z2 : wr.cell? ⟨A1, 1, none⟩ = some (.slice none 0 0) := HX1.out.at_ rfl
      have z3 : wr.cell? ⟨A1, 2, none⟩ = some (.int .i64 0) := HX1.out.at_ rfl
      have f1 : wr.frozen? ⟨A1, 0, none⟩ = false := HX1.out.frozen 0
      have f2 : wr.frozen? ⟨A1, 1, none⟩ = false := HX1.out.frozen 1
      have f3 : wr.frozen? ⟨A1, 2, none⟩ = false := HX1.out.frozen 2
      clear hkn x2
      go_wp2_with fail
      obtain ⟨wf, hwf⟩ : ∃ wf, wf = ((wr.setCell ⟨A1, 0, none⟩ (.slice aO m cO)).setCell ⟨A1, 1, none⟩ (.slice aK kk cK)).setCell ⟨A1, 2, none⟩ (.int .i64 D1) := ⟨_, rfl⟩
      have hh : Held wf A1 29 #[.slice aO m cO, .slice aK kk cK, .int .i64 D1] := by rw [hwf]; exact ((HX1.out.set 0 _).set 1 _).set 2 _
      have hgr : wr.grownBy wf (some A1) := by rw [hwf]; exact grown_three (grown_setCell _ _ _ _) (grown_setCell _ _ _ _) (grown_setCell _ _ _ _)
      rw [← hwf]
      clear hwf
      have v0 : wf.cell? ⟨A1, 0, none⟩ = some (.slice aO m cO) := hh.at_ rfl
      have v1 : wf.cell? ⟨A1, 1, none⟩ = some (.slice aK kk cK) := hh.at_ rfl
      have v2 : wf.cell? ⟨A1, 2, none⟩ = some (.int .i64 D1) := hh.at_ rfl
      have hbf : Below S w wf := HB.out.trans ⟨hgr.os, hgr.tape, hgr.output, hgr.size, fun j hj => hgr.block j (by have := HB.out.size; have := HS.out; omega) (fun e => by have := HAA.out; injection e with e; omega)⟩
      have hm : m = (flat (c0 :: R)).length := by rw [← HOUT.out]; exact HMM.out
      have ho : wr.ownsRow 0 42 4 (.slice aO m cO) m (vcs (flat (c0 :: R))) := by rw [← HOUT.out]; exact HO.out
      have hof : wf.ownsRow 0 42 4 (.slice aO m cO) m (vcs (flat (c0 :: R))) := own_same ho fun j hj => hgr.block j (ho.lt j hj).2 (fun e => own_ne ho HX1.out (by decide) (by rw [hj]; exact e))
      obtain ⟨a', c', hv', hmc⟩ := own_len hof
      injection hv' with _ _ hc'
      refine bodyPost_ret (v := .agg #[.slice aO m cO, .slice aK kk cK, .int .i64 D1]) (by simp [results, Try.results10, go_sem, v0, v1, v2]) rfl ⟨aO, cO, ?_, ⟨RdC.own hof rfl (fun j hj => .inr (HOS.out j hj)), (HH.out.kinds.below (by rw [← HS.out]; exact hbf)).mono (fun g _ h => .inl h), by omega, HH.out.capK, own_none hof, HH.out.nilK⟩, hbf⟩
      rw [← hm, show (d : Int) + 1 = D1 by rw [HD1.out]; omega]
end Go.Proofs.Ytncbkedfodaabaa
