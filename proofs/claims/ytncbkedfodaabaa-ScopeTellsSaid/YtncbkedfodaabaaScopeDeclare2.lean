/- Declare: what may be. -/
import Derived.Test.YtncbkedfodaabaaScopeDeclare
import Derived.BigQuiet
namespace Go.Proofs.Ytncbkedfodaabaa
open Go.RowKit
set_option linter.unusedVariables false

/-- all kinds are one more -/
theorem Lay.more {w w2 : World} {p : Nat} {F : Nat → Prop} {R : List (List Dc)} {ks : List Nat} {b n kn : Nat} {vB vK vK' : Value} {vs : List Value} (L : Lay w p F R ks b n vB vK vs)
    (hown : w2.ownsRow 0 3 1 vK' (ks.length + 1) (kcs ks ++ [.int .i64 (kn : Int)])) (hg : w.grownBy w2 vK.ownBlock) (hwh : ∀ k, vK'.ownBlock = some k → vK.ownBlock = some k ∨ w.heap.size ≤ k) :
    Lay (w2.setCell ⟨p, 2, none⟩ vK') p (fun k => F k ∨ (w.heap.size ≤ k ∧ k < (w2.setCell ⟨p, 2, none⟩ vK').heap.size)) R (ks ++ [kn]) b n vB vK' vs ∧ Tn F w (w2.setCell ⟨p, 2, none⟩ vK') := by
  have HP2 : Held w2 p 52 #[.map (some b), vB, vK] := L.box.block (hg.block p L.box.lt (fun e => own_ne L.kinds L.box (by decide) e.symm))
  have HP3 : Held (w2.setCell ⟨p, 2, none⟩ vK') p 52 #[.map (some b), vB, vK'] := HP2.set 2 vK'
  have hgp := grown_setCell w2 p 2 vK'
  obtain ⟨w3, hw3⟩ : ∃ w3, w3 = w2.setCell ⟨p, 2, none⟩ vK' := ⟨_, rfl⟩
  rw [← hw3] at HP3 hgp ⊢
  have hsz : w.heap.size ≤ w3.heap.size := Nat.le_trans hg.size hgp.size
  have hkeep : ∀ k, k < w.heap.size → k ≠ p → vK.ownBlock ≠ some k → w3.heap[k]? = w.heap[k]? := fun k hk h3 h4 => (hgp.block k (Nat.lt_of_lt_of_le hk hg.size) (fun e => h3 (by injection e))).trans (hg.block k hk (fun e => h4 e.symm))
  have hpv : vK'.ownBlock ≠ some p := own_ne hown HP2 (by decide)
  refine ⟨?_, ⟨hgp.os.trans hg.os, hgp.tape.trans hg.tape, hgp.output.trans hg.output, hsz, fun k hk hF => hkeep k hk (fun e => hF (e ▸ L.fp)) (fun e => hF (L.fK k e))⟩⟩
  refine ⟨HP3, L.map.block (hkeep b L.map.lt (fun e => L.map.ne L.box e.symm) (fun e => ?_)), own_same L.blocks (fun k hk => hkeep k (L.lt k (L.fB k hk)) (fun e => own_ne L.blocks L.box (by decide) (e ▸ hk)) (fun e => ?_)), ?_,
    L.rows.same (fun u hu k hk => hkeep k (L.lt k (L.fR u hu k hk)) (fun e => L.rows.ne L.box (by decide) u hu (e ▸ hk)) (fun e => ?_)), L.fine, ?_, L.some_, ?_, .inl L.fp, .inl L.fb, fun k hk => .inl (L.fB k hk), ?_, fun u hu k hk => .inl (L.fR u hu k hk)⟩
  · obtain ⟨cur, hcur⟩ := own_block L.kinds e
    exact L.map.ne hcur rfl
  · obtain ⟨cur, hcur⟩ := own_block L.kinds e
    exact own_ne L.blocks hcur (by decide) hk
  · have e1 : kcs (ks ++ [kn]) = kcs ks ++ [.int .i64 (kn : Int)] := by unfold kcs; rw [List.map_append]; rfl
    rw [List.length_append, List.length_singleton, e1]
    exact own_same hown fun k hk => hgp.block k (hown.lt k hk).2 (fun e => hpv (by rw [hk, e]))
  · obtain ⟨cur, hcur⟩ := own_block L.kinds e
    exact L.rows.ne hcur (by decide) u hu hk
  · have := L.room
    rw [List.length_append, List.length_singleton]
    omega
  · intro k hk
    rcases hk with hk | hk
    · exact Nat.lt_of_lt_of_le (L.lt k hk) hsz
    · exact hk.2
  · intro k hk
    rcases hwh k hk with h3 | h3
    · exact .inl (L.fK k h3)
    · exact .inr ⟨h3, Nat.lt_of_lt_of_le (hown.lt k hk).2 hgp.size⟩
/-- the worlds in which all that is read ahead of the declaration is as it is -/
structure Seen7 (p gB m : Nat) (mv vB v : Value) (s : ByteArray) (x : Value) where
  w : World
  c0 : w.cell? ⟨p, 0, none⟩ = some mv
  c1 : w.cell? ⟨p, 1, none⟩ = some vB
  c2 : w.cell? ⟨gB, m, none⟩ = some v
  lk : (Instr.lookup 49 mv (.string s) false).run Try.prog w = .ok x w
set_option maxRecDepth 100000 in
theorem declare_yes {w : World} {p : Nat} {F : Nat → Prop} {b0 : List Dc} {R : List (List Dc)} {ks : List Nat} (H : IsS w p F (b0 :: R) ks) {s : ByteArray} (hs : s.size ≤ maxLen) (kn : Nat) (hk1 : 1 ≤ kn) (hk3 : kn ≤ 3) (hno : ¬ ∃ d ∈ b0, d.nm = s) (hR : R.length ≤ 1000000) (hks : ks.length ≤ 1000000) :
    Calls Try.prog 13 #[.pointer (some ⟨p, 0, none⟩), .string s, .int .i64 (kn : Int)] w fun e w' => e = .returned (.tuple #[.int .i64 (ks.length : Int), .bool true]) ∧ ∃ F', IsS w' p F' ((b0 ++ [⟨s, ks.length, kn⟩]) :: R) (ks ++ [kn]) ∧ Tn F w w' ∧ Grew F F' w := by
  have hd := depth_any H
  obtain ⟨b, n, vB, vK, vs, L⟩ := H
  have p0 : w.cell? ⟨p, 0, none⟩ = some (.map (some b)) := L.box.at_ rfl
  have hl := L.map.look hs
  have hx3 : (Sees (b0 :: R) s).2.2 ≠ R.length + 1 := fun e => hno ((sees_here s).1 e)
  obtain ⟨x, hx⟩ : ∃ x, x = Sees (b0 :: R) s := ⟨_, rfl⟩
  rw [← hx] at hl hx3
  obtain ⟨x1, x2, x3⟩ := x
  simp only [tv] at hl
  obtain ⟨m, hm⟩ : ∃ m, m = R.length := ⟨_, rfl⟩
  have hmb : m ≤ 1000000 := by omega
  rw [List.length_cons, ← hm] at hd
  rw [← hm] at hx3
  have hz : ((m : Int) + 1 == 0) = false := by simp; omega
  have h1' : decide ((kn : Int) < 1) = false := by simp; omega
  have h2' : decide ((3 : Int) < (kn : Int)) = false := by simp; omega
  have hf := field_block w x1 x2 x3
  have h3' : ((x3 : Int) == (m : Int) + 1) = false := by simp only [beq_eq_false_iff_ne, ne_eq]; simp only at hx3; omega
  obtain ⟨q, hq⟩ : ∃ q, q = ks.length := ⟨_, rfl⟩
  have hqb : q ≤ 1000000 := by omega
  obtain ⟨cap, C, fr, hb1, hb2⟩ := bytes_there w s s.size rfl
  obtain ⟨w1, hw1⟩ : ∃ w1, w1 = (w.alloc (.cells C 5 fr)).drew := ⟨_, rfl⟩
  rw [← hw1] at hb1 hb2
  have hB1 : Below w.heap.size w w1 := by rw [hw1]; exact ((Below.refl _ _).alloc (Nat.le_refl _) _).drew
  clear hw1
  have L1 := L.same (fun k hk => hB1.block k (L.lt k hk)) hB1.size
  obtain ⟨aK, cK, rfl, _⟩ := own_len L1.kinds
  have r2 : w1.cell? ⟨p, 2, none⟩ = some (.slice aK q cK) := L1.box.at_ (by rw [hq]; rfl)
  have HL1 := hidden L1
  have HB1 := hidden hB1
  have HQ := hidden hq
  have HM := hidden hm
  have HX := hidden hx
  have HX3 := hidden hx3
  have HK := hidden (show w1.ownsRow 0 3 1 (.slice aK q cK) q (kcs ks) by rw [hq]; exact L1.kinds)
  have HNO := hidden hno
  have HK1 := hidden hk1
  have HK3 := hidden hk3
  have hown0 : ∀ (av : Option Addr) (cv : Nat) (w2 : World), w2.ownsRow 0 3 1 (.slice av (q + 1) cv) (q + 1) (kcs ks ++ [.int .i64 (kn : Int)]) → w2.ownsRow 0 3 1 (.slice av (q + 1) cv) (ks.length + 1) (kcs ks ++ [.int .i64 (kn : Int)]) := by rw [hq]; exact fun _ _ _ h => h
  have HO := hidden hown0
  clear hown0 L L1 hB1 hq hm hx hno hk1 hk3 hR hks hx3
  go_enter Try.func13, Try.ntmps13
  go_wp2_with (first | (go_at_call 16; refine hd.mono ?_; rintro e w1 ⟨rfl, hw1⟩; rw [hw1]; clear hw1 w1) | (at_builtin; refine wpList_more rfl (.tmp 45) (.tmp 47) 27 3 (.int .i64 0) 1 8 Try.underlying27 infoI' rfl (by decide) (by decide) rfl w1 (.slice aK q cK) q (kcs ks) [.int .i64 (kn : Int)] _ rfl rfl HK.out (by omega) rfl rfl (by simp [Value.oneCell']) ?_; intro av cv w2 hown hgrow hwh; have HP2 : Held w2 p 52 #[.map (some b), vB, .slice aK ks.length cK] := HL1.out.box.block (hgrow.block p HL1.out.box.lt (fun e => own_ne HK.out HL1.out.box (by decide) e.symm)); have g1 : w2.cell? ⟨p, 2, none⟩ = some (.slice aK ks.length cK) := HP2.at_ rfl; have f1 := HP2.frozen 2))
  have hgr' : w1.grownBy w2 (Value.slice aK ks.length cK).ownBlock := by rw [← HQ.out]; exact hgrow
  have hwh' : ∀ k, (Value.slice av (q + 1) cv).ownBlock = some k → (Value.slice aK ks.length cK).ownBlock = some k ∨ w1.heap.size ≤ k := by rw [← HQ.out]; exact hwh
  obtain ⟨hL3, hT3⟩ := HL1.out.more (HO.out av cv w2 hown) hgr' hwh'
  obtain ⟨w3, hw3⟩ : ∃ w3, w3 = w2.setCell ⟨p, 2, none⟩ (Value.slice av (q + 1) cv) := ⟨_, rfl⟩
  rw [← hw3] at hL3 hT3 ⊢
  have hGr3 : Grew F (fun k => F k ∨ (w1.heap.size ≤ k ∧ k < w3.heap.size)) w1 := fun k hk => hk.imp id (fun h => h.1)
  generalize (fun k => F k ∨ (w1.heap.size ≤ k ∧ k < w3.heap.size)) = F3 at hL3 hGr3
  obtain ⟨vK', hvK'⟩ : ∃ v, v = Value.slice av (q + 1) cv := ⟨_, rfl⟩
  rw [← hvK'] at hL3
  have HT3 := hidden hT3
  have HGr3 := hidden hGr3
  have h1x : (x1, x2, x3) = Sees R s := HX.out.trans (sees_out HNO.out)
  have HXR := hidden h1x
  have L := hL3
  obtain ⟨v, us, rfl⟩ : ∃ v us, vs = v :: us := by
    cases vs with
    | nil => exact L.rows.elim
    | cons v us => exact ⟨v, us, rfl⟩
  have hm1 : (b0 :: R).length = m + 1 := by have := HM.out; simp; omega
  have hus : us.length = m := by have := L.rows.length; simp at this; have := HM.out; omega
  have hB := L.blocks
  rw [hm1] at hB
  have hj : (v :: us).reverse[m]? = some v := by rw [List.reverse_cons, List.getElem?_append_right (by rw [List.length_reverse]; omega), List.length_reverse, hus]; simp
  obtain ⟨gB, cB, rfl, hcB, cc, curB, hgB⟩ := own_cell hB hj
  obtain ⟨aV, cV, rfl, hcV⟩ := own_len L.rows.1
  obtain ⟨qv, hqv⟩ : ∃ qv, qv = b0.length := ⟨_, rfl⟩
  rw [← hqv] at cc
  have hqvb : qv ≤ 2000002 := by
    have h1 := L.room
    have h2 := HQ.out
    rw [total, List.map_cons, List.sum_cons, List.length_append, List.length_singleton] at h1
    omega
  obtain ⟨w4, hw4⟩ : ∃ w4, w4 = w3.drew := ⟨_, rfl⟩
  have L4 : Lay w4 p F3 (b0 :: R) (ks ++ [kn]) b n _ vK' (.slice aV b0.length cV :: us) := L.same (w' := w4) (fun k hk => by rw [hw4]; rfl) (by rw [hw4]; exact Nat.le_refl _)
  have hT4 : Tn F3 w3 w4 := by rw [hw4]; exact ⟨rfl, rfl, rfl, Nat.le_refl _, fun _ _ _ => rfl⟩
  have c4 : w4.cell? ⟨gB, m, none⟩ = some (.slice aV qv cV) := by rw [hw4]; exact cc
  have hgB4 : Held w4 gB 54 curB := by rw [hw4]; exact hgB
  have HL4 := hidden L4
  have HT4 := hidden hT4
  have HQV := hidden hqv
  have HCB := hidden hcB
  have HGB4 := hidden hgB4
  have HVK := hidden hvK'
  have HC4 := hidden c4
  have hlook : ∀ w' : World, w'.heap[b]? = w4.heap[b]? → (Instr.lookup 49 (.map (some b)) (.string s) false).run Try.prog w' = .ok (.agg #[.int .i64 (x1 : Int), .int .i64 (x2 : Int), .int .i64 (x3 : Int)]) w' := fun w' h => by
    have := (HL4.out.map.block h).look hs
    rw [← HX.out] at this
    exact this
  have HLK := hidden hlook
  clear hlook c4 hvK' hgB4 hcB hqv hT4 L4 hgB cc L hB hm1 hus hj hL3 hT3 hGr3 h1x hgr' hwh' hown hgrow hwh HP2 g1 f1 r2 hb1 hb2 hl hd hz h1' h2' hf h3' p0
  refine wp_region_big (F := fun w' => ∃ i : Seen7 p gB m (.map (some b)) (.slice (some ⟨gB, 0, none⟩) (m + 1) cB) (.slice aV qv cV) s (.agg #[.int .i64 (x1 : Int), .int .i64 (x2 : Int), .int .i64 (x3 : Int)]), w' = i.w) 2 (by kernel_rfl) (by decide) ?_
  change wpF _ _ _ _ _ _ _ _ w3.drew
  rw [← hw4]
  clear hw4
  refine wpF_mask (m := 2) [true,true,true,true,true,true,true,true,true,true,true,true,true,true,true,true,true,true,true,true,true,true,false,false,false,false] (by intro c a d v w h; cases d <;> exact h) (by kernel_rfl) ⟨⟨w4, HL4.out.box.at_ rfl, HL4.out.box.at_ rfl, HC4.out, HLK.out w4 rfl⟩, rfl⟩ ?_
  have hne : Nonempty (Seen7 p gB m (.map (some b)) (.slice (some ⟨gB, 0, none⟩) (m + 1) cB) (.slice aV qv cV) s (.agg #[.int .i64 (x1 : Int), .int .i64 (x2 : Int), .int .i64 (x3 : Int)])) := ⟨⟨w4, HL4.out.box.at_ rfl, HL4.out.box.at_ rfl, HC4.out, HLK.out w4 rfl⟩⟩
  have f0 : ∀ i : Seen7 p gB m (.map (some b)) (.slice (some ⟨gB, 0, none⟩) (m + 1) cB) (.slice aV qv cV) s (.agg #[.int .i64 (x1 : Int), .int .i64 (x2 : Int), .int .i64 (x3 : Int)]), i.w.cell? ⟨p, 0, none⟩ = some (.map (some b)) := fun i => i.c0
  have f1 : ∀ i : Seen7 p gB m (.map (some b)) (.slice (some ⟨gB, 0, none⟩) (m + 1) cB) (.slice aV qv cV) s (.agg #[.int .i64 (x1 : Int), .int .i64 (x2 : Int), .int .i64 (x3 : Int)]), i.w.cell? ⟨p, 1, none⟩ = some (.slice (some ⟨gB, 0, none⟩) (m + 1) cB) := fun i => i.c1
  have f2 : ∀ i : Seen7 p gB m (.map (some b)) (.slice (some ⟨gB, 0, none⟩) (m + 1) cB) (.slice aV qv cV) s (.agg #[.int .i64 (x1 : Int), .int .i64 (x2 : Int), .int .i64 (x3 : Int)]), i.w.cell? ⟨gB, m, none⟩ = some (.slice aV qv cV) := fun i => i.c2
  have f3 : ∀ i : Seen7 p gB m (.map (some b)) (.slice (some ⟨gB, 0, none⟩) (m + 1) cB) (.slice aV qv cV) s (.agg #[.int .i64 (x1 : Int), .int .i64 (x2 : Int), .int .i64 (x3 : Int)]), (Instr.lookup 49 (.map (some b)) (.string s) false).run Try.prog i.w = .ok (.agg #[.int .i64 (x1 : Int), .int .i64 (x2 : Int), .int .i64 (x3 : Int)]) i.w := fun i => i.lk
  have hml : (m : Int) < ((m + 1 : Nat) : Int) := by omega
  simp only [leftOf]
  repeat (go_big_quiet_step (fail))
  refine wpQuiet_nil ?_
  clear f0 f1 f2 f3
  refine wpF_one 22 (by kernel_rfl) ?_
  simp only [List.drop_succ_cons, List.drop_zero, List.take_succ_cons, List.take_zero]
  go_wp2_with fail
  have hbne : ∀ k cs e fz, w4.heap[k]? = some (.cells cs e fz) → k ≠ b := fun k cs e fz h => HL4.out.map.ne h
  have a0 : ∀ o : Obj, (w4.alloc o).cell? ⟨p, 0, none⟩ = some (.map (some b)) := fun o => (HL4.out.box.alloc o).at_ rfl
  have a1 : ∀ o : Obj, (w4.alloc o).cell? ⟨p, 1, none⟩ = some (.slice (some ⟨gB, 0, none⟩) (m + 1) cB) := fun o => (HL4.out.box.alloc o).at_ rfl
  have a2 : ∀ o : Obj, (w4.alloc o).cell? ⟨gB, m, none⟩ = some (.slice aV qv cV) := fun o => ((HGB4.out.alloc o).cell m).trans ((HGB4.out.cell m).symm.trans HC4.out)
  have a3 : ∀ o : Obj, (Instr.lookup 49 (.map (some b)) (.string s) false).run Try.prog (w4.alloc o) = .ok (.agg #[.int .i64 (x1 : Int), .int .i64 (x2 : Int), .int .i64 (x3 : Int)]) (w4.alloc o) := fun o => HLK.out _ (by have := HL4.out.map.lt; show (w4.heap.push o)[b]? = _; rw [Array.getElem?_push, if_neg (by omega)])
  refine And.intro ⟨⟨_, a0 _, a1 _, a2 _, a3 _⟩, rfl⟩ ?_
  clear a0 a1 a2 a3 hbne
  refine wpF_one 23 (by kernel_rfl) ?_
  simp only [List.drop_succ_cons, List.drop_zero, List.take_succ_cons, List.take_zero]
  have HRV := hidden (show w4.ownsRow 0 58 4 (.slice aV qv cV) qv (dcl R b0) by rw [HQV.out]; exact HL4.out.rows.1)
  obtain ⟨news, hnews⟩ : ∃ news : List Value, news = [.string s, .int .i64 (x1 : Int), .int .i64 (x2 : Int), .int .i64 (x3 : Int)] := ⟨_, rfl⟩
  have hn1 : news.length = 4 := by rw [hnews]; rfl
  have hn2 : ∀ u ∈ news, u.oneCell' = true := by rw [hnews]; simp [Value.oneCell']
  have hn3 : (#[.string s, .int .i64 (x1 : Int), .int .i64 (x2 : Int), .int .i64 (x3 : Int)] : Array Value) = news.toArray := by rw [hnews]
  have HNW := hidden hnews
  have HN1 := hidden hn1
  have HN2 := hidden hn2
  have HN3 := hidden hn3
  clear hnews hn1 hn2 hn3
  go_wp2_with (at_builtin; refine wpList_more rfl (.tmp 64) (.tmp 73) 54 58 (.agg #[.string ⟨#[]⟩, .int .i64 0, .int .i64 0, .int .i64 0]) 4 40 Try.underlying54 infoC rfl (by decide) (by decide) rfl w4 (.slice aV qv cV) qv (dcl R b0) news _ rfl rfl HRV.out (by omega) HN3.out HN1.out HN2.out ?_; intro aV2 cV2 w5 hown5 hgrow5 hwh5)
  have hbp : ∀ g, (Value.slice aV qv cV).ownBlock = some g → ∃ cur, Held w4 g 58 cur := fun g hg => own_block HRV.out hg
  have hP5 : Held w5 p 52 #[.map (some b), .slice (some ⟨gB, 0, none⟩) (m + 1) cB, vK'] := HL4.out.box.block (hgrow5.block p HL4.out.box.lt (fun e => own_ne HRV.out HL4.out.box (by decide) e.symm))
  have hG5 : Held w5 gB 54 curB := HGB4.out.block (hgrow5.block gB HGB4.out.lt (fun e => own_ne HRV.out HGB4.out (by decide) e.symm))
  have hb5 : w5.heap[b]? = w4.heap[b]? := hgrow5.block b HL4.out.map.lt (fun e => by
    obtain ⟨cur, hcur⟩ := hbp b e.symm
    exact HL4.out.map.ne hcur rfl)
  have hc5 : w5.cell? ⟨gB, m, none⟩ = some (.slice aV qv cV) := (hG5.cell m).trans ((HGB4.out.cell m).symm.trans HC4.out)
  refine And.intro ⟨⟨w5, hP5.at_ rfl, hP5.at_ rfl, hc5, HLK.out w5 hb5⟩, rfl⟩ ?_
  refine wpF_tail 24 (by kernel_rfl) ?_
  simp only [List.drop_succ_cons, List.drop_zero]
  have hgp : gB ≠ p := fun e => by
    have h1 := HGB4.out
    unfold Held at h1
    rw [e] at h1
    have h2 := HL4.out.box
    unfold Held at h2
    rw [h1] at h2
    injection h2 with h2
    injection h2 with _ h2
    exact absurd h2 (by decide)
  have hpg : p ≠ gB := Ne.symm hgp
  have hbB : b ≠ gB := fun e => HL4.out.map.ne HGB4.out e.symm
  have hbp' : b ≠ p := fun e => HL4.out.map.ne HL4.out.box e.symm
  have t2 : w5.frozen? ⟨gB, m, none⟩ = false := hG5.frozen m
  obtain ⟨v', hv'⟩ : ∃ v', v' = Value.slice aV2 (qv + 1) cV2 := ⟨_, rfl⟩
  obtain ⟨w6, hw6⟩ : ∃ w6, w6 = w5.setCell ⟨gB, m, none⟩ (Value.slice aV2 (qv + 1) cV2) := ⟨_, rfl⟩
  have HP6 := hidden (show Held w6 p 52 #[.map (some b), .slice (some ⟨gB, 0, none⟩) (m + 1) cB, vK'] by rw [hw6]; exact hP5.off hpg _ _)
  have HG6 := hidden (show w5.grownBy w6 (some gB) by rw [hw6]; exact grown_setCell _ _ _ _)
  have s0 : w6.cell? ⟨p, 0, none⟩ = some (.map (some b)) := HP6.out.at_ rfl
  have HM6 := hidden (show MapIs w6 b n (Sees (b0 :: R)) from HL4.out.map.block ((HG6.out.block b (by have := HL4.out.map.lt; exact Nat.lt_of_lt_of_le this hgrow5.size) (fun e => hbB (by injection e))).trans hb5))
  have hnb : n < maxLen := by
    have h1 := HL1.out.room
    have h2 := HQ.out
    unfold maxLen
    omega
  have HNB := hidden hnb
  have HOWN5 := hidden hown5
  have HGR5 := hidden hgrow5
  have HWH5 := hidden hwh5
  have HP5 := hidden hP5
  have HG5' := hidden hG5
  have HW6 := hidden hw6
  rw [hw6] at s0
  clear hown5 hgrow5 hwh5 hP5 hG5 hnb hb5 hw6
  go_wp2_with (at_mapUpdate; rw [← HW6.out]; refine wpList_put rfl _ _ _ rfl b n _ rfl HM6.out HNB.out s hs (q, kn, m + 1) rfl rfl ?_; intro w7 hm7 hg7)
  go_ret2
  have L := HL4.out
  have h5 := HOWN5.out
  rw [← hv'] at h5
  have hwh := HWH5.out
  rw [← hv'] at hwh
  have hw6 := HW6.out
  rw [← hv'] at hw6
  have hsz : w4.heap.size ≤ w7.heap.size := Nat.le_trans HGR5.out.size (Nat.le_trans HG6.out.size hg7.size)
  have hkeep : ∀ j, j < w4.heap.size → j ≠ b → j ≠ gB → (Value.slice aV qv cV).ownBlock ≠ some j → w7.heap[j]? = w4.heap[j]? := fun j hj h1 h2 h3 =>
    (hg7.block j (Nat.lt_of_lt_of_le hj (Nat.le_trans HGR5.out.size HG6.out.size)) (fun e => h1 (by injection e))).trans
      ((HG6.out.block j (Nat.lt_of_lt_of_le hj HGR5.out.size) (fun e => h2 (by injection e))).trans (HGR5.out.block j hj (fun e => h3 e.symm)))
  have hfv : ∀ g, (Value.slice aV qv cV).ownBlock = some g → F3 g := fun g hg => L.fR _ (by rw [HQV.out]; exact List.mem_cons_self) g hg
  have hT47 : Tn F3 w4 w7 := ⟨hg7.os.trans (HG6.out.os.trans HGR5.out.os), hg7.tape.trans (HG6.out.tape.trans HGR5.out.tape), hg7.output.trans (HG6.out.output.trans HGR5.out.output), hsz, fun j hj hF => hkeep j hj (fun e => hF (e ▸ L.fb)) (fun e => hF (e ▸ L.fB gB rfl)) (fun e => hF (hfv j e))⟩
  have hT03 : Tn F w w3 := (Tn.below HB1.out).trans HT3.out (Grew.refl F w)
  have hG03 : Grew F F3 w := fun k hk => (HGr3.out k hk).imp id (fun h => Nat.le_trans HB1.out.size h)
  have hT07 : Tn F w w7 := (hT03.trans HT4.out hG03).trans hT47 hG03
  have hs34 : w.heap.size ≤ w4.heap.size := Nat.le_trans hT03.size HT4.out.size
  have hvlt := h5.lt
  have hP7 : Held w7 p 52 #[.map (some b), .slice (some ⟨gB, 0, none⟩) (m + 1) cB, vK'] := HP6.out.block (hg7.block p HP6.out.lt (fun e => hbp' (by injection e with e; exact e.symm)))
  have h57 : ∀ k, v'.ownBlock = some k → w7.heap[k]? = w5.heap[k]? := fun k hk => by
    obtain ⟨cur, hcur⟩ := own_block h5 hk
    rw [hg7.block k (Nat.lt_of_lt_of_le hcur.lt HG6.out.size) (fun e => (HM6.out.ne (show w6.heap[k]? = _ from (HG6.out.block k hcur.lt (fun e2 => own_ne h5 HG5'.out (by decide) (by rw [hk, e2]))).trans hcur)) (by injection e))]
    exact HG6.out.block k hcur.lt (fun e2 => own_ne h5 HG5'.out (by decide) (by rw [hk, e2]))
  refine ⟨by rw [← HQ.out]; rfl, fun k => F3 k ∨ (w4.heap.size ≤ k ∧ k < w7.heap.size), ⟨b, n + 1, .slice (some ⟨gB, 0, none⟩) (m + 1) cB, vK', v' :: us, ?_⟩, hT07, fun k hk => ?_⟩
  · refine ⟨hP7, hm7.congr fun u _ => ?_, ?_, own_same L.kinds (fun j hj => hkeep j (L.lt j (L.fK j hj)) (fun e => ?_) (fun e => own_ne L.kinds HGB4.out (by decide) (e ▸ hj)) (fun e => ?_)), ⟨?_, ?_, L.rows.2.2.same (fun u hu j hj => hkeep j (L.lt j (L.fR u (List.mem_cons_of_mem _ hu) j hj)) (fun e => ?_) (fun e => L.rows.ne HGB4.out (by decide) u (List.mem_cons_of_mem _ hu) (e ▸ hj)) (fun e => ?_))⟩, ?_, ?_, by simp, fun j hj => ?_, .inl L.fp, .inl L.fb, fun j hj => .inl (L.fB j hj), fun j hj => .inl (L.fK j hj), fun u hu j hj => ?_⟩
    · rw [sees_more]
      unfold upd
      by_cases h : u = s
      · subst h
        rw [if_pos rfl, if_pos rfl, HQ.out, HM.out]
      · rw [if_neg h, if_neg (fun e => h e.symm)]
    · have h1 : w5.ownsRow 0 54 1 (.slice (some ⟨gB, 0, none⟩) (m + 1) cB) (m + 1) (Value.slice aV b0.length cV :: us).reverse := by
        have hm1 : (b0 :: R).length = m + 1 := by have := HM.out; simp; omega
        have h0 := L.blocks
        rw [hm1] at h0
        exact h0.kept HGR5.out (.inr fun e => by
          have e2 : (Value.slice aV qv cV).ownBlock = some gB := by rw [← e]; rfl
          exact own_ne HRV.out HGB4.out (by decide) e2)
      have h2 := own_set (u := v') h1 rfl (show m < (m + 1) * 1 by omega)
      rw [← hw6] at h2
      have hul : us.reverse.length = m := by rw [List.length_reverse]; have := L.rows.length; have := HM.out; simp at *; omega
      have h4 : (Value.slice aV b0.length cV :: us).reverse.set m v' = (v' :: us).reverse := by
        rw [List.reverse_cons, List.reverse_cons, List.set_append_right _ _ (by omega), hul, Nat.sub_self]
        rfl
      rw [h4] at h2
      have h6 : ((b0 ++ [⟨s, ks.length, kn⟩]) :: R).length = m + 1 := by have := HM.out; simp; omega
      rw [h6]
      exact h2.kept hg7 (.inr fun e => hbB (by
        have e3 : some gB = some b := e
        injection e3 with e3
        exact e3.symm))
    · obtain ⟨cur, hcur⟩ := own_block L.kinds hj
      exact L.map.ne hcur e
    · obtain ⟨cur, hcur⟩ := own_block HRV.out e
      exact own_ne L.kinds hcur (by decide) hj
    · have e1 : (b0 ++ [(⟨s, ks.length, kn⟩ : Dc)]).length = qv + 1 := by have := HQV.out; simp; omega
      have e2 : dcl R (b0 ++ [⟨s, ks.length, kn⟩]) = dcl R b0 ++ news := by
        rw [dcl_more, HNW.out]
        unfold dcv
        rw [← HXR.out]
      rw [e1, e2]
      exact own_same h5 h57
    · intro u hu
      cases hk : v'.ownBlock with
      | none => exact .inl rfl
      | some k =>
        refine .inr fun e => ?_
        rcases hwh k hk with h6 | h6
        · rw [HQV.out] at h6
          rcases L.rows.2.1 u hu with h7 | h7
          · rw [h6] at h7; cases h7
          · exact h7 (e.trans h6.symm)
        · have := L.lt k (L.fR u (List.mem_cons_of_mem _ hu) k e)
          omega
    · obtain ⟨nn, xs, h1⟩ := L.rows.each u (List.mem_cons_of_mem _ hu)
      obtain ⟨cur, hcur⟩ := own_block h1 hj
      exact L.map.ne hcur e
    · rw [HQV.out] at e
      rcases L.rows.2.1 u hu with h7 | h7
      · rw [e] at h7; cases h7
      · exact h7 (hj.trans e.symm)
    · intro c hc d hd
      rcases List.mem_cons.1 hc with rfl | hc
      · rcases List.mem_append.1 hd with hd | hd
        · exact L.fine b0 (by simp) d hd
        · simp at hd
          subst hd
          exact ⟨hs, HK1.out, HK3.out⟩
      · exact L.fine c (List.mem_cons_of_mem _ hc) d hd
    · have h1 := HL1.out.room
      rw [total, List.map_cons, List.sum_cons] at h1 ⊢
      simp only [List.length_append, List.length_singleton]
      omega
    · rcases hj with hj | hj
      · exact Nat.lt_of_lt_of_le (L.lt j hj) hsz
      · exact hj.2
    · rcases List.mem_cons.1 hu with rfl | hu
      · rcases hwh j hj with h6 | h6
        · exact .inl (hfv j h6)
        · refine .inr ⟨h6, ?_⟩
          exact Nat.lt_of_lt_of_le (hvlt j hj).2 (Nat.le_trans HG6.out.size hg7.size)
      · exact .inl (L.fR u (List.mem_cons_of_mem _ hu) j hj)
  · rcases hk with hk | hk
    · exact hG03 k hk
    · exact .inr (by omega)
end Go.Proofs.Ytncbkedfodaabaa
