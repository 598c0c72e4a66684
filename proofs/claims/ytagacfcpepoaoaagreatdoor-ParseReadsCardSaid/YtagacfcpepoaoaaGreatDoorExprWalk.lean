/- The walks through the reader's Inner, Call, single, over what Expr does with less. -/
import Derived.Test.YtagacfcpepoaoaaGreatDoorMBad
import Derived.Test.YtagacfcpepoaoaaGreatDoorExprRules
namespace Go.Proofs.YtagacfcpepoaoaaGreatDoor
open Go.RowKit
set_option linter.unusedVariables false

variable {B g : Nat} {L : List Tk}
/-- what a call of the reader tells and leaves -/
def Post (B g : Nat) (L : List Tk) (m : Md) (w : World) (R : Bx) (d : Nat) (s : PS) (en : Ending) (w' : World) : Prop := ∃ v, Reads m d s v ∧ Ends B g L w R d v en w'
def CExpr (B g : Nat) (L : List Tk) (M : Nat) : Prop := ∀ w R d s, Good B g L w R d s → d ≤ 200 → s.r.length ≤ M → Calls Tryz.prog 65 #[.pointer (some ⟨g, 0, none⟩)] w (Post B g L (.chain 0) w R d s)
def CInner (B g : Nat) (L : List Tk) (M : Nat) : Prop := ∀ (a b : List UInt8) w R d s, Good B g L w R d s → d ≤ 200 → s.r.length ≤ M → Calls Tryz.prog 104 #[.pointer (some ⟨g, 0, none⟩), .string ⟨a.toArray⟩, .string ⟨b.toArray⟩] w (Post B g L (.inner a b) w R d s)
set_option maxRecDepth 100000 in
theorem inner_of {M : Nat} (hE : CExpr B g L M) : CInner B g L (M + 1) := by
  intro a b w R d s H hd hM
  have HE := hidden hE
  have HS := hidden H
  have HF : Hid (Fr g w w R R) := Fr.of_below R (Below.refl _ _)
  have hfd := field_at
  have HM := hidden hM
  clear H hE hM
  obtain ⟨X, hX⟩ : ∃ X : ByteArray, X = ⟨a.toArray⟩ := ⟨_, rfl⟩
  obtain ⟨Y, hY⟩ : ∃ Y : ByteArray, Y = ⟨b.toArray⟩ := ⟨_, rfl⟩
  rw [← hX, ← hY]
  have HX := hidden hX
  have HY := hidden hY
  clear hX hY
  go_enter Tryz.func104, Tryz.ntmps104
  go_wp2_with fail
  refine (g_token HS.out).mono ?_
  rintro en v1 ⟨rfl, hb⟩
  replace HS := hidden (HS.out.below hb)
  replace HF := hidden (HF.out.trans (Fr.of_below _ hb))
  clear hb
  go_wp2_with fail
  rw [HX.out]
  cases ha : s.is a with
  | false =>
    have HA := hidden ha
    clear ha
    refine (g_want_no a HS.out HA.out).mono ?_
    rintro en v2 ⟨rfl, hg, hf⟩
    replace HS := hidden hg
    replace HF := hidden (HF.out.trans hf)
    clear hg hf
    go_wp2_with fail
    refine (b_open s.tok.place HS.out (by omega)).mono ?_
    rintro en v3 ⟨rfl, hg, hf⟩
    replace HS := hidden hg
    replace HF := hidden (HF.out.trans hf)
    clear hg hf
    go_wp2_with fail
    refine (expr_bad HS.out).mono ?_
    rintro en v4 ⟨rfl, hb⟩
    replace HS := hidden (HS.out.below hb)
    replace HF := hidden (HF.out.trans (Fr.of_below _ hb))
    clear hb
    go_wp2_with fail
    rw [HY.out]
    refine (b_want b HS.out).mono ?_
    rintro en v5 ⟨rfl, hb⟩
    replace HS := hidden (HS.out.below hb)
    replace HF := hidden (HF.out.trans (Fr.of_below _ hb))
    clear hb
    go_wp2_with fail
    refine (b_close HS.out (by omega)).mono ?_
    rintro en v6 ⟨⟨v, rfl⟩, hg, hf⟩
    replace HS := hidden hg
    replace HF := hidden (HF.out.trans hf)
    clear hg hf
    go_wp2_with fail
    go_ret
    exact ⟨_, Reads.inner_no HA.out, _, HF.out, rfl, .inr ⟨_, rfl, rfl, HS.out⟩⟩
  | true =>
    have HA := hidden ha
    clear ha
    refine (g_want_yes a HS.out HA.out).mono ?_
    rintro en v7 ⟨rfl, hg, hf⟩
    replace HS := hidden hg
    replace HF := hidden (HF.out.trans hf)
    clear hg hf
    go_wp2_with fail
    have HN := hidden (is_some HA.out)
    by_cases hdeep : 200 ≤ d
    · have HD := hidden hdeep
      refine (g_open_deep s.tok.place HS.out hdeep (by omega)).mono ?_
      rintro en v8 ⟨rfl, hg, hf⟩
      replace HS := hidden hg
      replace HF := hidden (HF.out.trans hf)
      clear hg hf
      go_wp2_with fail
      refine (expr_bad HS.out).mono ?_
      rintro en v9 ⟨rfl, hb⟩
      replace HS := hidden (HS.out.below hb)
      replace HF := hidden (HF.out.trans (Fr.of_below _ hb))
      clear hb
      go_wp2_with fail
      rw [HY.out]
      refine (b_want b HS.out).mono ?_
      rintro en v10 ⟨rfl, hb⟩
      replace HS := hidden (HS.out.below hb)
      replace HF := hidden (HF.out.trans (Fr.of_below _ hb))
      clear hb
      go_wp2_with fail
      refine (b_close HS.out (by omega)).mono ?_
      rintro en v11 ⟨⟨v, rfl⟩, hg, hf⟩
      replace HS := hidden hg
      replace HF := hidden (HF.out.trans hf)
      clear hg hf
      go_wp2_with fail
      go_ret
      exact ⟨_, Reads.inner_deep HA.out HD.out, _, HF.out, rfl, .inr ⟨_, rfl, rfl, HS.out⟩⟩
    · have hlt : d < 200 := by omega
      refine (g_open_ok s.tok.place HS.out hlt).mono ?_
      rintro en v12 ⟨rfl, hg, hf⟩
      replace HS := hidden hg
      replace HF := hidden (HF.out.trans hf)
      clear hg hf
      go_wp2_with fail
      refine (HE.out _ _ _ _ HS.out (by omega) (by have := HN.out; have := HM.out; omega)).mono ?_
      rintro en x1 ⟨v, hrd, R1, hf, hz, hv⟩
      have HRD := hidden hrd
      replace HF := hidden (HF.out.trans hf)
      have HZ := hidden hz
      clear hrd hf hz
      rcases hv with ⟨k, s1, rfl, rfl, hg⟩ | ⟨f, rfl, rfl, hg⟩
      · replace HS := hidden hg
        clear hg
        go_wp2_with fail
        rw [HY.out]
        cases hb : s1.is b with
        | true =>
          have HBB := hidden hb
          clear hb
          refine (g_want_yes b HS.out HBB.out).mono ?_
          rintro en v13 ⟨rfl, hg, hf⟩
          replace HS := hidden hg
          replace HF := hidden (HF.out.trans hf)
          clear hg hf
          go_wp2_with fail
          refine (g_close HS.out (by omega)).mono ?_
          rintro en v14 ⟨⟨v, rfl⟩, hg, hf⟩
          replace HS := hidden hg
          replace HF := hidden (HF.out.trans hf)
          clear hg hf
          go_wp2_with fail
          go_ret
          exact ⟨_, Reads.inner_ok HA.out hlt HRD.out HBB.out, _, HF.out, HZ.out, .inl ⟨k, _, rfl, rfl, HS.out⟩⟩
        | false =>
          have HBB := hidden hb
          clear hb
          refine (g_want_no b HS.out HBB.out).mono ?_
          rintro en v15 ⟨rfl, hg, hf⟩
          replace HS := hidden hg
          replace HF := hidden (HF.out.trans hf)
          clear hg hf
          go_wp2_with fail
          refine (b_close HS.out (by omega)).mono ?_
          rintro en v16 ⟨⟨v, rfl⟩, hg, hf⟩
          replace HS := hidden hg
          replace HF := hidden (HF.out.trans hf)
          clear hg hf
          go_wp2_with fail
          go_ret
          exact ⟨_, Reads.inner_end HA.out hlt HRD.out HBB.out, _, HF.out, HZ.out, .inr ⟨_, rfl, rfl, HS.out⟩⟩
      · replace HS := hidden hg
        clear hg
        go_wp2_with fail
        rw [HY.out]
        refine (b_want b HS.out).mono ?_
        rintro en v17 ⟨rfl, hb⟩
        replace HS := hidden (HS.out.below hb)
        replace HF := hidden (HF.out.trans (Fr.of_below _ hb))
        clear hb
        go_wp2_with fail
        refine (b_close HS.out (by omega)).mono ?_
        rintro en v18 ⟨⟨v, rfl⟩, hg, hf⟩
        replace HS := hidden hg
        replace HF := hidden (HF.out.trans hf)
        clear hg hf
        go_wp2_with fail
        go_ret
        exact ⟨_, Reads.inner_err HA.out hlt HRD.out, _, HF.out, HZ.out, .inr ⟨_, rfl, rfl, HS.out⟩⟩
/-- a node over a kid, around: what is laid -/
def PostA (B g : Nat) (L : List Tk) (K : Int) (A : Nat) (w : World) (R : Bx) (d : Nat) (s : PS) (en : Ending) (w' : World) : Prop :=
  (∃ f, Reads (.inner lp rp) d s (.error f) ∧ Ends B g L w R d (.error f) en w') ∨ ∃ q s1, Reads (.inner lp rp) d s (.ok ([q], s1)) ∧ Ends B g L w R d (lay (En K [q] 0 ⟨#[]⟩ A) s1) en w'
set_option maxRecDepth 100000 in
theorem around_of {M : Nat} (hI : CInner B g L M) (K : Int) (A : Nat) (w : World) (R : Bx) (d : Nat) (s : PS) (H : Good B g L w R d s) (hd : d ≤ 200) (hM : s.r.length ≤ M) (hs : s.l.length + s.r.length ≤ L.length) :
    Calls Tryz.prog 110 #[.pointer (some ⟨g, 0, none⟩), .int .i64 K, .int .i64 (A : Int)] w (PostA B g L K A w R d s) := by
  have HE := hidden hI
  have HH := hidden H
  have HSS := hidden hs
  clear H hI hs
  go_enter Tryz.func110, Tryz.ntmps110
  rw [veil 2]
  go_wp2_with fail
  refine (HE.out lp rp w R d s HH.out hd hM).mono ?_
  rintro en x1 ⟨v, hrd, R1, hf, hz, hv⟩
  have HRD := hidden hrd
  have HF := hidden hf
  have HZ := hidden hz
  clear hrd hf hz
  rcases hv with ⟨k, s1, rfl, rfl, hg⟩ | ⟨f, rfl, rfl, hg⟩
  · have HS := hidden hg
    clear hg
    go_wp2_with fail
    refine wp_veil ?_
    go_wp2_with fail
    have HNW := hidden (now_new x1 [k] #[.int .i64 k] rfl (by simp) 1 rfl)
    have HBA : Hid (Below x1.heap.size x1 (x1.alloc (.cells #[.int .i64 k] 3))) := (Below.refl _ _).alloc (Nat.le_refl _) _
    refine (g_put (B' := x1.heap.size) ⟨K, some ⟨x1.heap.size, 0, none⟩, 1, [k], 0, ⟨#[]⟩, (A : Int)⟩ A (HS.out.below HBA.out) HNW.out (by have := HRD.out.slack; have := HSS.out; omega) (by simp) rfl).mono ?_
    rintro en x2 ⟨R2, hf2, hz2, hv2⟩
    have HF2 := hidden ((HF.out.trans (Fr.of_below _ HBA.out)).trans hf2)
    have HZ2 : Hid (R2.Z = R.Z) := hz2.trans HZ.out
    clear hf2 hz2
    rcases hv2 with ⟨k2, s2, hlay, rfl, hg⟩ | ⟨f, hlay, rfl, hg⟩
    · have HL := hidden hlay
      have HG := hidden hg
      clear hlay hg
      go_wp2_with fail
      go_ret
      exact .inr ⟨k, s1, HRD.out, R2, HF2.out, HZ2.out, .inl ⟨k2, s2, HL.out, rfl, HG.out⟩⟩
    · have HL := hidden hlay
      have HG := hidden hg
      clear hlay hg
      go_wp2_with fail
      go_ret
      exact .inr ⟨k, s1, HRD.out, R2, HF2.out, HZ2.out, .inr ⟨f, HL.out, rfl, HG.out⟩⟩
  · have HS := hidden hg
    clear hg
    go_wp2_with fail
    refine wp_veil ?_
    go_wp2_with fail
    have HBA : Hid (Below x1.heap.size x1 (x1.alloc (.cells #[.int .i64 (-1)] 3))) := (Below.refl _ _).alloc (Nat.le_refl _) _
    refine (b_put _ _ _ _ _ (HS.out.below HBA.out)).mono ?_
    rintro en x2 ⟨rfl, hb⟩
    have HB2 := hidden (below_then HBA.out hb)
    clear hb
    go_wp2_with fail
    go_ret
    exact .inl ⟨f, HRD.out, R1, HF.out.trans (Fr.of_below _ HB2.out), HZ.out, .inr ⟨f, rfl, rfl, HS.out.below HB2.out⟩⟩
/-- what arguments tells -/
def PostG (B g : Nat) (L : List Tk) (w : World) (R : Bx) (d : Nat) (s : PS) (en : Ending) (w' : World) : Prop :=
  ∃ R', Fr g w w' R R' ∧ ((∃ l s' v, en = .returned v ∧ Now w.heap.size w' v l ∧ l.length ≤ 8 ∧ (R'.Z = fun k => R.Z k ∨ v.ownBlock = some k) ∧ Good B g L w' R' d s' ∧ ((s.is rp = true ∧ l = [] ∧ s' = s) ∨ (s.is rp = false ∧ Reads (.args []) d s (.ok (l, s'))))) ∨
    (∃ f a n c, s.is rp = false ∧ Reads (.args []) d s (.error f) ∧ en = .returned (.slice a n c) ∧ R'.Z = R.Z ∧ Bad B g L w' R' d f))
/-- arguments on the way -/
def ArgSt (B g : Nat) (L : List Tk) (w : World) (R : Bx) (d : Nat) (s : PS) (t3 t4 : Value) (wr : World) : Prop :=
  ∃ R1, Fr g w wr R R1 ∧ (
    (∃ acc s1, t4 = .bool true ∧ Now w.heap.size wr t3 acc ∧ acc.length ≤ 8 ∧ (R1.Z = fun k => R.Z k ∨ t3.ownBlock = some k) ∧ Good B g L wr R1 d s1 ∧ s1.r.length ≤ s.r.length ∧ ∀ v, Reads (.args acc) d s1 v → Reads (.args []) d s v) ∨
    (∃ l s', t4 = .bool false ∧ Now w.heap.size wr t3 l ∧ l.length ≤ 8 ∧ (R1.Z = fun k => R.Z k ∨ t3.ownBlock = some k) ∧ Good B g L wr R1 d s' ∧ Reads (.args []) d s (.ok (l, s'))) ∨
    (∃ f a n c, t4 = .bool false ∧ t3 = .slice a n c ∧ R1.Z = R.Z ∧ Bad B g L wr R1 d f ∧ Reads (.args []) d s (.error f)))
/-- a number is put behind those of a row that the reader does not own -/
theorem fr_foreign {g : Nat} {w w1 W1 w' : World} {R R1 : Bx} {v : Value} {n : Nat} {xs : List Value} (F : Fr g w w1 R R1) (hb : Below w1.heap.size w1 W1) (hv : W1.ownsRow w.heap.size 3 1 v n xs) (hg : W1.grownBy w' v.ownBlock) (Z' : Nat → Prop) : Fr g w w' R { R1 with Z := Z' } := by
  refine ⟨hg.os.trans (hb.os.trans F.os), hg.tape.trans (hb.tape.trans F.tape), hg.output.trans (hb.output.trans F.output), Nat.le_trans F.size (Nat.le_trans hb.size hg.size), ?_, F.vn, F.vh⟩
  intro k hk h1 h2 h3
  rw [hg.block k (by have := F.size; have := hb.size; omega) (fun e => by have := (hv.lt k e.symm).1; omega), hb.block k (by have := F.size; omega), F.block k hk h1 h2 h3]
theorem Now.block_own {B' : Nat} {w w' : World} {v : Value} {xs : List Int} (h : Now B' w v xs) (hb : ∀ k, v.ownBlock = some k → w'.heap[k]? = w.heap[k]?) : Now B' w' v xs := by
  refine ⟨h.1, ?_⟩
  rcases h.2 with h1 | ⟨g, cap, cur, h1, h2, h3, r⟩
  · exact .inl h1
  · refine .inr ⟨g, cap, cur, h1, h2, ?_, r⟩
    rw [hb g (by rw [h1]; rfl)]
    exact h3
theorem Now.keep {g B' : Nat} {w w' : World} {R R' : Bx} {v : Value} {xs : List Int} {B : Nat} {L : List Tk} {d : Nat} {s : PS} (h : Now B' w v xs) (H : Good B g L w R d s) (hz : ∀ k, v.ownBlock = some k → R.Z k) (F : Fr g w w' R R') : Now B' w' v xs := by
  refine h.block_own (fun k hk => ?_)
  obtain ⟨p, l, H, _⟩ := H
  have hlt := (World.ownsRow.lt h k hk).2
  refine F.block k hlt ?_ ?_ ((H.zone k (hz k hk)).2.1)
  · intro e; subst e; exact own_ne h H.box (by decide) hk
  · intro e
    rcases own_own H.own h (by decide) with h1 | h1
    · rw [h1] at e; cases e
    · exact h1 (e.trans hk.symm)
end Go.Proofs.YtagacfcpepoaoaaGreatDoor
