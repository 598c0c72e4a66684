/- The walk through the reference's Parse: what it tells of any text. -/
import Derived.Test.YtagacfcpepoaoaaGreatDoorQPar
namespace Go.Proofs.YtagacfcpepoaoaaGreatDoor
open Go.RowKit
set_option linter.unusedVariables false

variable {B g M : Nat} {L : List Tk} {w0 w w' : World} {R0 R R' : Bx} {d d' : Nat} {o o' o1 : Except Flt PS} {acc : List Int}
theorem QAny.held_old {G : Nat} {t : TypeId} {cs : Array Value} (H : QAny B g L w R d o) (F : Fr g w w' R R') (h : Held w G t cs) (hG : G < B) : Held w' G t cs := h.block ((H.below_base F).block G hG)
theorem Does.par_left {v : Out} (h : Does o (parF d) v) (n m : Nat) (hl : Lim o n m) : Lim (toO v) n m := by
  cases o with
  | error f => rw [show v = _ from h]; exact Lim.err
  | ok s =>
    obtain ⟨n0, hn⟩ := h
    have h1 := hn n0 (Nat.le_refl _)
    have h0 := hl s rfl
    unfold parF at h1
    rcases Go.Proofs.YtagacfcpepoaoaaGreatDoor.need_ok h1 with ⟨hlp, h2⟩ | ⟨_, rfl⟩
    · have hp := slack_is hlp
      have e0 : s.next.l = s.l := rfl
      split at h2
      · rename_i hrp
        have hq := slack_is hrp
        have e2 : s.next.next.l = s.l := rfl
        injection h2 with h2
        subst h2
        intro s' e
        injection e with e
        subst e
        rw [e2]
        exact ⟨by omega, by omega⟩
      · match v, h2 with
        | .error f, _ => exact Lim.err
        | .ok (l, s1), h2 =>
          have h5 := prd_left n0 _ _ _ _ (fun _ e => by cases e) h2 l s1 rfl
          have h6 := h5.all
          have h7 := h5.toks
          rw [e0] at h6
          intro s' e
          injection e with e
          subst e
          exact ⟨by omega, by omega⟩
    · exact Lim.err
set_option maxRecDepth 100000 in
set_option maxHeartbeats 40000000 in
theorem qparse_any (s : ByteArray) (w : World) (hX : XTabs w) (hs : s.size ≤ 65536) :
    Calls Tryz.prog 6 #[.string s] w (PParsed s.data.toList w) := by
  obtain ⟨W, hW⟩ : ∃ W, W = w.alloc (.cells #[.int .i64 0, .int .i64 0] 26) := ⟨_, rfl⟩
  obtain ⟨A0, hA⟩ : ∃ A0, A0 = w.heap.size := ⟨_, rfl⟩
  have HG : Hid (Held W A0 26 #[.int .i64 0, .int .i64 0]) := by rw [hW, hA]; exact Held.new _ _ _
  have HB : Hid (Below w.heap.size w W) := by rw [hW]; exact (Below.refl _ _).alloc (Nat.le_refl _) _
  have HAL : Hid (w.heap.size ≤ A0) := by rw [hA]; exact Nat.le_refl _
  have HAW : Hid (A0 < W.heap.size) := HG.out.lt
  have HXT : Hid (XTabs W) := hX.keep (fun k hk => HB.out.block k (by have := hX.size; omega))
  have HXS : Hid (xTop ≤ W.heap.size) := HXT.out.size
  have HTOK := hidden (rtokens_any s W hs)
  obtain ⟨l, hl⟩ : ∃ l, l = s.data.toList := ⟨_, rfl⟩
  have HLEN : Hid (l.length ≤ 65536) := by rw [hl]; exact (show s.data.toList.length ≤ 65536 by rw [Array.length_toList]; exact hs)
  rw [← hl] at HTOK ⊢
  have hfd := field_at
  have hf0 : ∀ (a b c x : Value) (w : World), (Instr.field 49 (.agg #[a, b, c, x]) 0).run Tryz.prog w = .ok a w := fun _ _ _ _ _ => by kernel_rfl
  clear hX hs hl
  go_enter Tryz.func6, Tryz.ntmps6
  rw [veil 1, veil 2]
  go_wp2_with fail
  rw [← hW, ← hA]
  clear hW hA
  refine wp_veil ?_
  go_wp2_with fail
  refine HTOK.out.mono ?_
  clear HTOK
  rintro en w1 (⟨L, v, hTl, rfl, hV⟩ | ⟨x, q, hTl, rfl, hb⟩)
  · have HTL := hidden hTl
    have hIL := T_isL hTl HLEN.out
    have HIL := hidden hIL
    obtain ⟨tb0, tc0, rfl, htb0⟩ := own_some hV.1 hIL.some
    obtain ⟨W2, hW2⟩ : ∃ W2, W2 = w1.alloc (.cells #[.int .i64 0, .int .i64 0] 26) := ⟨_, rfl⟩
    obtain ⟨A2, hA2⟩ : ∃ A2, A2 = w1.heap.size := ⟨_, rfl⟩
    have HG2 : Hid (Held W2 A2 26 #[.int .i64 0, .int .i64 0]) := by rw [hW2, hA2]; exact Held.new _ _ _
    have hbW : Below w1.heap.size w1 W2 := by rw [hW2]; exact (Below.refl _ _).alloc (Nat.le_refl _) _
    have HBW : Hid (Below W.heap.size W W2) := hV.2.trans (hbW.mono hV.2.size)
    have HRW := hidden (own_below hV.1 hbW)
    have HTB0 := hidden htb0
    clear hTl hV hbW htb0 hIL
    go_wp2_with fail
    rw [← hW2, ← hA2]
    clear hW2 hA2
    have z0 : W2.cell? ⟨A2, 0, none⟩ = some (.int .i64 0) := HG2.out.at_ rfl
    refine wp_veil ?_
    go_wp2_with fail
    have hnew := q_new (L := L) tb0 tc0 W2 W.heap.size (HXT.out.keep (fun k hk => HBW.out.block k (by have := HXS.out; omega))) HXS.out HBW.out.size HIL.out HRW.out HTB0.out
    obtain ⟨W3, hW3⟩ : ∃ W3, W3 = W2.alloc (.cells #[.slice (some ⟨tb0, 0, none⟩) L.length tc0, .int .i64 0, .int .i64 0, .slice none 0 0, .slice none 0 0, .int .i64 0, .int .i64 0] 47) := ⟨_, rfl⟩
    obtain ⟨g, hg⟩ : ∃ g, g = W2.heap.size := ⟨_, rfl⟩
    rw [← hW3, ← hg] at hnew
    have HB3 : Hid (Below W.heap.size W W3) := by rw [hW3]; exact HBW.out.trans (((Below.refl _ _).alloc (Nat.le_refl _) _).mono HBW.out.size)
    have HM3 : Hid (Held W3 A0 26 #[.int .i64 0, .int .i64 0]) := HG.out.since HB3.out
    rw [← hW3, ← hg]
    clear hW3 hg z0
    obtain ⟨R0, hR0⟩ : ∃ R0 : Bx, R0 = ⟨tb0, tc0, .slice none 0 0, .slice none 0 0, fun _ => False⟩ := ⟨_, rfl⟩
    rw [← hR0] at hnew
    clear hR0
    have HQ0 := hidden hnew
    have HQ : Hid (QPrg W.heap.size g L W3 R0 (.slice none 0 0) W3) := by
      refine ⟨_, R0, [], (QRun.start HQ0.out).pre HQ0.out, fun s e => ?_, by simp, fun _ _ => by simp, fun u hu => hu⟩
      injection e with e
      subst e
      exact ⟨by show 0 + L.length ≤ _; omega, Nat.le_refl _⟩
    clear hnew
    go_loopw [7] (fun t7 wr => Hid (QPrg W.heap.size g L W3 R0 t7 wr)) (fun _ wr => qlam g L.length wr)
    case atStart => exact HQ
    case round =>
      obtain ⟨o2, R2, acc, hpre, hlim, h201, h200, hct⟩ := hrel.out
      obtain ⟨la, lcp, hv⟩ := own_shape5 hpre.now
      obtain ⟨A, hA⟩ : ∃ A, A = acc.length := ⟨_, rfl⟩
      rw [← hA] at hv
      subst hv
      have HAC := hidden hA
      have HS := hidden hpre
      have HLM := hidden hlim
      have H201 := hidden h201
      have H200 := hidden h200
      have HCT := hidden hct
      clear hrel hpre hlim h201 h200 hct hA HQ
      obtain ⟨wo, hwo⟩ : ∃ wo, wo = wr := ⟨_, rfl⟩
      have HWO := hidden hwo
      clear hwo
      cases o2 with
      | error f =>
        obtain ⟨e, c5, he⟩ := q_err5 HS.out.any
        have hen : (e == 0) = false := by simpa using he
        clear he
        go_wp2_with fail
        refine (HS.out.lay 26 0 ⟨#[]⟩ 0 HB3.out.size Lim.err (by have := H201.out; omega)).mono ?_
        rintro en w9 ⟨u, R9, hdu, hgot, _⟩
        obtain rfl := hgot.en
        have hu : u = .error f := hdu
        subst hu
        have HA9 : Hid (QAny W.heap.size g L w9 R9 0 (.error f)) := hgot.run.any
        have HM6 : Hid (Held w9 A0 26 #[.int .i64 0, .int .i64 0]) := HQ0.out.held_old hgot.run.fr HM3.out HAW.out
        have HALL : Hid (Below w.heap.size w w9) := HB.out.trans ((HB3.out.trans (HQ0.out.below_base hgot.run.fr)).mono HB.out.size)
        have HDZ := hidden (HCT.out (.error f) rfl)
        clear hdu hgot c5 hen
        obtain ⟨fx, fq⟩ := f
        obtain ⟨p9, l9, h9, dd9, H9, hne⟩ := (show QBad W.heap.size g L w9 R9 (fx, fq) from HA9.out)
        have c5 : w9.cell? ⟨g, 5, none⟩ = some (.int .i64 (fx : Int)) := H9.c5
        have c6 : w9.cell? ⟨g, 6, none⟩ = some (.int .i64 (fq : Int)) := H9.c6
        have hen : ((fx : Int) != 0) = true := by have h : fx ≠ 0 := hne; simp; omega
        have HNZ : Hid (fx ≠ 0) := hne
        clear H9 hne
        go_wp2_with fail
        go_still_tail 5, (by kernel_rfl)
        change wpList _ _ _ _ _ w9.drew
        have HD6 : Hid (Held w9.drew A0 26 #[.int .i64 0, .int .i64 0]) := HM6.out.block rfl
        have x0 : w9.drew.cell? ⟨A0, 0, none⟩ = some (.int .i64 0) := HD6.out.at_ rfl
        have x1 : w9.drew.cell? ⟨A0, 1, none⟩ = some (.int .i64 0) := HD6.out.at_ rfl
        have e0 := HD6.out.frozen 0
        have e1 := HD6.out.frozen 1
        obtain ⟨W7, hW7⟩ : ∃ W7, W7 = w9.drew := ⟨_, rfl⟩
        have HB7 : Hid (Below w.heap.size w W7) := by rw [hW7]; exact HALL.out.trans ((below_drew w9).mono HALL.out.size)
        rw [← hW7] at x0 x1 e0 e1 HD6 ⊢
        clear hW7
        go_wp2_with fail
        obtain ⟨W', hW', hH, hBel⟩ := two_told HD6.out HB7.out HAL.out (.int .i64 (fx : Int)) (.int .i64 (fq : Int))
        rw [← hW']
        have r0 : W'.cell? ⟨A0, 0, none⟩ = some (.int .i64 (fx : Int)) := hH.at_ rfl
        have r1 : W'.cell? ⟨A0, 1, none⟩ = some (.int .i64 (fq : Int)) := hH.at_ rfl
        clear hW' hH
        exact bodyPost_ret (v := .tuple #[.slice none 0 0, .agg #[.int .i64 (fx : Int), .int .i64 (fq : Int)]]) (by simp [results, Tryz.results6, go_sem, r0, r1]) rfl ⟨hBel, .inr ⟨L, _, HTL.out, HDZ.out.to_preads, .inr ⟨fx, fq, rfl, HNZ.out, rfl⟩⟩⟩
      | ok s =>
        have c5 := q_ok5 HS.out.any
        have HLAM : Hid (qlam g L.length wo = s.r.length) := by rw [HWO.out]; exact QGood.qlam HS.out.any
        have HSP := hidden (HS.out.any.len s rfl)
        have HLL := hidden (HLM.out s rfl)
        obtain ⟨tk, tn, ta, tx, hta, hcall⟩ := q_now' HS.out.any
        have HTK : Hid (tk = s.tok.kind) := (hta s rfl).1
        have HC := hidden hcall
        clear hta hcall
        by_cases hk0 : tk = 0
        · have hk0i : ((tk : Int) != 0) = false := by simp [hk0]
          have HK0 : Hid (s.tok.kind = 0) := by show _ = _; rw [← HTK.out]; exact hk0
          clear hk0
          go_wp2_with fail
          refine HC.out.mono ?_
          rintro en w4 ⟨rfl, hb⟩
          replace HS := hidden (HS.out.below hb)
          clear hb HC c5
          go_wp2_with fail
          refine (HS.out.lay 26 0 ⟨#[]⟩ 0 HB3.out.size HLM.out (by have := H201.out; omega)).mono ?_
          rintro en w9 ⟨u, R9, hdu, hgot, _⟩
          obtain rfl := hgot.en
          have HA9 : Hid (QAny W.heap.size g L w9 R9 0 (toO u)) := hgot.run.any
          have HM6 : Hid (Held w9 A0 26 #[.int .i64 0, .int .i64 0]) := HQ0.out.held_old hgot.run.fr HM3.out HAW.out
          have HALL : Hid (Below w.heap.size w w9) := HB.out.trans ((HB3.out.trans (HQ0.out.below_base hgot.run.fr)).mono HB.out.size)
          have HDZ := hidden (HCT.out u (Does.prog_end HK0.out hdu))
          clear hdu hgot
          match u, HA9, HDZ with
          | .error (fx, fq), HA9, HDZ =>
            obtain ⟨p9, l9, h9, dd9, H9, hne⟩ := (show QBad W.heap.size g L w9 R9 (fx, fq) from HA9.out)
            have c5 : w9.cell? ⟨g, 5, none⟩ = some (.int .i64 (fx : Int)) := H9.c5
            have c6 : w9.cell? ⟨g, 6, none⟩ = some (.int .i64 (fq : Int)) := H9.c6
            have hen : ((fx : Int) != 0) = true := by have h : fx ≠ 0 := hne; simp; omega
            have HNZ : Hid (fx ≠ 0) := hne
            clear H9 hne
            go_wp2_with fail
            go_still_tail 5, (by kernel_rfl)
            change wpList _ _ _ _ _ w9.drew
            have HD6 : Hid (Held w9.drew A0 26 #[.int .i64 0, .int .i64 0]) := HM6.out.block rfl
            have x0 : w9.drew.cell? ⟨A0, 0, none⟩ = some (.int .i64 0) := HD6.out.at_ rfl
            have x1 : w9.drew.cell? ⟨A0, 1, none⟩ = some (.int .i64 0) := HD6.out.at_ rfl
            have e0 := HD6.out.frozen 0
            have e1 := HD6.out.frozen 1
            obtain ⟨W7, hW7⟩ : ∃ W7, W7 = w9.drew := ⟨_, rfl⟩
            have HB7 : Hid (Below w.heap.size w W7) := by rw [hW7]; exact HALL.out.trans ((below_drew w9).mono HALL.out.size)
            rw [← hW7] at x0 x1 e0 e1 HD6 ⊢
            clear hW7
            go_wp2_with fail
            obtain ⟨W', hW', hH, hBel⟩ := two_told HD6.out HB7.out HAL.out (.int .i64 (fx : Int)) (.int .i64 (fq : Int))
            rw [← hW']
            have r0 : W'.cell? ⟨A0, 0, none⟩ = some (.int .i64 (fx : Int)) := hH.at_ rfl
            have r1 : W'.cell? ⟨A0, 1, none⟩ = some (.int .i64 (fq : Int)) := hH.at_ rfl
            clear hW' hH
            exact bodyPost_ret (v := .tuple #[.slice none 0 0, .agg #[.int .i64 (fx : Int), .int .i64 (fq : Int)]]) (by simp [results, Tryz.results6, go_sem, r0, r1]) rfl ⟨hBel, .inr ⟨L, _, HTL.out, HDZ.out.to_preads, .inr ⟨fx, fq, rfl, HNZ.out, rfl⟩⟩⟩
          | .ok (l1, s1), HA9, HDZ =>
            obtain ⟨p9, l9, H9, hr9, hl9⟩ := (show QGood W.heap.size g L w9 R9 0 s1 from HA9.out)
            have c5 : w9.cell? ⟨g, 5, none⟩ = some (.int .i64 0) := H9.c5
            have HC6 : Hid (w9.cell? ⟨g, 6, none⟩ = some (.int .i64 0)) := H9.c6
            have HC5 := hidden c5
            obtain ⟨vt, hvt⟩ : ∃ vt, vt = R9.vn := ⟨_, rfl⟩
            have HC3 : Hid (w9.cell? ⟨g, 3, none⟩ = some vt) := by rw [hvt]; exact H9.c3
            have HGV : Hid (Given W w9 vt s1.l) := ⟨l9, by rw [hvt]; exact H9.own, hl9.symm, H9.kids⟩
            clear H9 hr9 hl9 hvt
            go_wp2_with fail
            have c3 := HC3.out
            have c6 := HC6.out
            go_still_tail 9, (by kernel_rfl)
            change wpList _ _ _ _ _ w9.drew
            have HD6 : Hid (Held w9.drew A0 26 #[.int .i64 0, .int .i64 0]) := HM6.out.block rfl
            have x0 : w9.drew.cell? ⟨A0, 0, none⟩ = some (.int .i64 0) := HD6.out.at_ rfl
            have x1 : w9.drew.cell? ⟨A0, 1, none⟩ = some (.int .i64 0) := HD6.out.at_ rfl
            have e0 := HD6.out.frozen 0
            have e1 := HD6.out.frozen 1
            obtain ⟨W7, hW7⟩ : ∃ W7, W7 = w9.drew := ⟨_, rfl⟩
            have HB7 : Hid (Below w.heap.size w W7) := by rw [hW7]; exact HALL.out.trans ((below_drew w9).mono HALL.out.size)
            have HGW : Hid (Given W W7 vt s1.l) := by rw [hW7]; exact HGV.out.below (below_drew w9)
            rw [← hW7] at x0 x1 e0 e1 HD6 ⊢
            clear hW7 c3 c5 c6
            go_wp2_with fail
            obtain ⟨W', hW', hH, hBel⟩ := two_told HD6.out HB7.out HAL.out (.int .i64 0) (.int .i64 0)
            have hgr : Given w W' vt s1.l := by
              obtain ⟨l', h1, h2, h3⟩ := HGW.out.base HB.out.size
              have gr1 := grown_setCell W7 A0 0 (.int .i64 0)
              have gr2 := grown_setCell (W7.setCell ⟨A0, 0, none⟩ (.int .i64 0)) A0 1 (.int .i64 0)
              have hx1 := HD6.out.set 0 (.int .i64 0)
              refine ⟨l', ?_, h2, fun x hx => ?_⟩
              · have k1 := World.ownsRow.kept h1 gr1 (.inr (own_ne h1 HD6.out (by decide)))
                rw [hW']
                exact World.ownsRow.kept k1 gr2 (.inr (own_ne k1 hx1 (by decide)))
              · have k1 := World.ownsRow.kept (h3 x hx) gr1 (.inr (own_ne (h3 x hx) HD6.out (by decide)))
                rw [hW']
                exact World.ownsRow.kept k1 gr2 (.inr (own_ne k1 hx1 (by decide)))
            rw [← hW']
            have r0 : W'.cell? ⟨A0, 0, none⟩ = some (.int .i64 0) := hH.at_ rfl
            have r1 : W'.cell? ⟨A0, 1, none⟩ = some (.int .i64 0) := hH.at_ rfl
            clear hW' hH
            exact bodyPost_ret (v := .tuple #[vt, .agg #[.int .i64 0, .int .i64 0]]) (by simp [results, Tryz.results6, go_sem, r0, r1]) rfl ⟨hBel, .inr ⟨L, _, HTL.out, HDZ.out.to_preads, .inl ⟨_, vt, rfl, rfl, hgr⟩⟩⟩
        · have hk0i : ((tk : Int) != 0) = true := by simp; omega
          have HKZ : Hid (s.tok.kind ≠ 0) := by show _ ≠ _; rw [← HTK.out]; exact hk0
          clear hk0
          go_wp2_with fail
          refine HC.out.mono ?_
          rintro en w4 ⟨rfl, hb⟩
          replace HS := hidden (HS.out.below hb)
          clear hb HC c5
          obtain ⟨tk3, tn3, tf, tx3, hta, hcall⟩ := q_now' HS.out.any
          have HTF : Hid (tf = s.tok.place) := (hta s rfl).2.2.1
          have HC := hidden hcall
          clear hta hcall
          go_wp2_with fail
          refine HC.out.mono ?_
          rintro en w5 ⟨rfl, hb⟩
          replace HS := hidden (HS.out.below hb)
          clear hb HC
          go_wp2_with fail
          refine (q_must wFn HS.out.any).mono ?_
          rintro en w6 ⟨⟨x6, rfl⟩, ha, hf⟩
          replace HS := hidden (HS.out.step ha hf (fun _ h => h) (Grow.need _))
          clear ha hf
          obtain ⟨o3, ho3⟩ : ∃ o3, o3 = needO wFn (.ok s) := ⟨_, rfl⟩
          rw [← ho3] at HS
          have HO3 := hidden ho3
          have HL3 : Hid (Lim o3 (L.length - 1) (s.r.length - 1)) := by
            rw [ho3]
            refine Lim.need_less (fun s' e => ?_)
            injection e with e
            subst e
            exact ⟨HLL.out.1, Nat.le_refl _⟩
          clear ho3
          by_cases hA200 : 200 ≤ A
          · have hge : (200 : Int) ≤ (A : Int) := by omega
            have HA2 : Hid (200 ≤ acc.length) := by show _ ≤ _; rw [← HAC.out]; exact hA200
            clear hA200
            go_wp2_with fail
            refine (q_fail 3 tf (by decide) HS.out.any).mono ?_
            rintro en w7 ⟨⟨x7, rfl⟩, ha, hf⟩
            replace HS := hidden (HS.out.step ha hf (fun _ h => h) (Grow.fail _ _))
            clear ha hf
            obtain ⟨f4, hf4⟩ := failO_err 3 tf o3
            rw [hf4] at HS
            have HF4 := hidden hf4
            have HL4 : Hid (Lim (.error f4) (L.length - 1) (s.r.length - 1)) := Lim.err
            clear hf4
            go_wp2_with fail
            refine (q_name HS.out.any).mono ?_
            rintro en wn ⟨tb, rfl, htb, ha, hf⟩
            replace HS := hidden (HS.out.step ha hf (fun _ h => h) Grow.name)
            have HTB := hidden htb
            obtain ⟨X, hX⟩ : ∃ X, X = nmO (Except.error f4) := ⟨_, rfl⟩
            rw [← hX]
            have HX := hidden hX
            have HL5 : Hid (Lim (nameO (Except.error f4)) (L.length - 1) (s.r.length - 1)) := Lim.name_le HL4.out
            clear ha hf htb hX
            go_wp2_with fail
            refine (q_params HS.out.any (HL5.out.self.mono (by omega) (by omega))).mono ?_
            rintro en wp ⟨v1, Rp, x1, acc1, rfl, hdp, hpre, hl1, hg1, hq1, hlm1⟩
            obtain ⟨lb1, lcp1, hx1⟩ := own_shape5 hpre.now
            obtain ⟨A1, hA1⟩ : ∃ A1, A1 = acc1.length := ⟨_, rfl⟩
            rw [← hA1] at hx1
            subst hx1
            have HA1 := hidden hA1
            have HBN : Hid (W.heap.size ≤ wn.heap.size) := HS.out.any.old
            have HDP := hidden hdp
            have HP := hidden hpre
            have HQ1 := hidden hq1
            have HL1 := hidden hl1
            have HGP := hidden hg1
            have HLP := hidden (Does.par_left hdp _ _ HL5.out)
            clear hdp hpre hq1 hl1 hg1 hlm1 hA1
            go_wp2_with fail
            refine (q_kind HP.out.any).mono ?_
            rintro en wk ⟨rfl, ha, hf⟩
            replace HP := hidden (HP.out.step ha hf (fun _ h => h) Grow.kind)
            have HLK : Hid (Lim (kindO (toO v1)) (L.length - 1) (s.r.length - 1)) := Lim.kind_le HLP.out
            obtain ⟨kd, hkd⟩ : ∃ kd : Nat, kd = kdO (toO v1) := ⟨_, rfl⟩
            rw [← hkd]
            have HKD := hidden hkd
            clear ha hf hkd
            go_wp2_with fail
            refine (q_block HP.out.any (by omega) (HLK.out.self.mono (by omega) (by omega))).mono ?_
            rintro en wb ⟨v2, Rb, hdb, hgot⟩
            obtain rfl := hgot.en
            replace HP := hidden (HP.out.then_ hgot.run hgot.tell.grow)
            have HDB := hidden hdb
            have HTB2 := hidden hgot.tell
            have HLB := hidden (Does.left (fun _ e => by cases e) hdb _ _ HLK.out)
            obtain ⟨k2, hk2⟩ : ∃ k2, k2 = kidO v2 := ⟨_, rfl⟩
            rw [← hk2]
            have HK2 := hidden hk2
            clear hdb hgot hk2
            go_wp2_with (at_builtin; refine wpList_kid rfl (.tmp 57) (.tmp 60) rfl wn.heap.size wb (.slice lb1 A1 lcp1) acc1 k2 rfl rfl HP.out.now HP.out.fr.size (by have := HL1.out; omega) ?_; intro v3 w6 h3 hg3 hw3; obtain ⟨va, vc3, hv3⟩ := own_shape5 h3; obtain ⟨R3, hr3⟩ := HP.out.push (k := k2) (by rw [HK2.out]; exact HTB2.out.kidIn) h3 hg3 hw3; have HR3 := hidden hr3; clear hr3 h3 hg3 hw3; rw [List.length_append, List.length_singleton] at hv3; subst hv3)
            refine (HR3.out.lay 25 (kd : Int) X tb HBN.out (HLB.out.self.mono (by omega) (by omega)) (by rw [List.length_append, List.length_singleton]; have := HL1.out; omega)).mono ?_
            rintro en wl ⟨u3, Rl, hdu, hgot, hlu⟩
            obtain rfl := hgot.en
            have HDU := hidden hdu
            have HLU := hidden (hlu _ _ HLB.out)
            have HGF : Hid (Grow (nameO (Except.error f4)) (toO u3)) := ((HGP.out.trans Grow.kind).trans HTB2.out.grow).trans hgot.tell.grow
            replace HS := hidden (HS.out.then_ hgot.run HGF.out)
            have HTL := hidden hgot.tell
            obtain ⟨k3, hk3⟩ : ∃ k3, k3 = kidO u3 := ⟨_, rfl⟩
            rw [← hk3]
            have HK3 := hidden hk3
            clear hdu hgot hk3 hlu HP HR3
            go_wp2_with (at_builtin; refine wpList_kid rfl (.tmp 62) (.tmp 70) rfl W3.heap.size wl (.slice la A lcp) acc k3 rfl rfl HS.out.now HS.out.fr.size (by have := H201.out; omega) ?_; intro v4 w7 h4 hg4 hw4; obtain ⟨va4, vc4, hv4⟩ := own_shape5 h4; obtain ⟨R4, hr4⟩ := HS.out.push (k := k3) (by rw [HK3.out]; exact HTL.out.kidIn) h4 hg4 hw4; have HR4 := hidden hr4; clear hr4 h4 hg4 hw4; rw [List.length_append, List.length_singleton] at hv4; subst hv4)
            have HFN : Hid (Does (Except.error f4) (fun s n => prd n .func 0 s) u3) := by
              refine Does.qfunc HTB.out HDP.out HQ1.out HDB.out ?_
              rw [← HK2.out, ← HKD.out, ← HX.out]
              exact HDU.out
            go_roundw
            case rel =>
              refine ⟨toO u3, R4, acc ++ [k3], HR4.out, HLU.out.self.mono (by have := HSP.out; have := HLL.out; omega) (by have := HSP.out; have := HLL.out; omega), by rw [List.length_append, List.length_singleton]; have := H200.out s rfl; omega, fun s' hs' => ?_, fun u hu => HCT.out u ?_⟩
              · have h1 : u3 = .error f4 := HFN.out
                rw [h1] at hs'
                cases hs'
              · have h1 : u3 = .error f4 := HFN.out
                rw [h1] at hu
                rw [show u = .error f4 from hu]
                exact Does.prog_long HKZ.out HA2.out (by rw [← HO3.out, ← HTF.out]; exact HF4.out)
            case measure =>
              show qlam g L.length w7 < qlam g L.length _
              rw [← HWO.out, HLAM.out]
              have h1 := HSP.out
              have h2 := HR4.out.any
              have h3 := HLU.out
              cases hv : toO u3 with
              | error f => rw [hv] at h2; rw [QBad.qlam h2]; omega
              | ok s3 => rw [hv] at h2 h3; rw [QGood.qlam h2]; have := (h3 s3 rfl).2; omega
          · have hge : ¬ (200 : Int) ≤ (A : Int) := by omega
            have HA2 : Hid (acc.length < 200) := by show _ < _; rw [← HAC.out]; omega
            have HL4 : Hid (Lim o3 (L.length - 1) (s.r.length - 1)) := HL3.out
            clear hA200
            go_wp2_with fail
            refine (q_name HS.out.any).mono ?_
            rintro en wn ⟨tb, rfl, htb, ha, hf⟩
            replace HS := hidden (HS.out.step ha hf (fun _ h => h) Grow.name)
            have HTB := hidden htb
            obtain ⟨X, hX⟩ : ∃ X, X = nmO o3 := ⟨_, rfl⟩
            rw [← hX]
            have HX := hidden hX
            have HL5 : Hid (Lim (nameO o3) (L.length - 1) (s.r.length - 1)) := Lim.name_le HL4.out
            clear ha hf htb hX
            go_wp2_with fail
            refine (q_params HS.out.any (HL5.out.self.mono (by omega) (by omega))).mono ?_
            rintro en wp ⟨v1, Rp, x1, acc1, rfl, hdp, hpre, hl1, hg1, hq1, hlm1⟩
            obtain ⟨lb1, lcp1, hx1⟩ := own_shape5 hpre.now
            obtain ⟨A1, hA1⟩ : ∃ A1, A1 = acc1.length := ⟨_, rfl⟩
            rw [← hA1] at hx1
            subst hx1
            have HA1 := hidden hA1
            have HBN : Hid (W.heap.size ≤ wn.heap.size) := HS.out.any.old
            have HDP := hidden hdp
            have HP := hidden hpre
            have HQ1 := hidden hq1
            have HL1 := hidden hl1
            have HGP := hidden hg1
            have HLP := hidden (Does.par_left hdp _ _ HL5.out)
            clear hdp hpre hq1 hl1 hg1 hlm1 hA1
            go_wp2_with fail
            refine (q_kind HP.out.any).mono ?_
            rintro en wk ⟨rfl, ha, hf⟩
            replace HP := hidden (HP.out.step ha hf (fun _ h => h) Grow.kind)
            have HLK : Hid (Lim (kindO (toO v1)) (L.length - 1) (s.r.length - 1)) := Lim.kind_le HLP.out
            obtain ⟨kd, hkd⟩ : ∃ kd : Nat, kd = kdO (toO v1) := ⟨_, rfl⟩
            rw [← hkd]
            have HKD := hidden hkd
            clear ha hf hkd
            go_wp2_with fail
            refine (q_block HP.out.any (by omega) (HLK.out.self.mono (by omega) (by omega))).mono ?_
            rintro en wb ⟨v2, Rb, hdb, hgot⟩
            obtain rfl := hgot.en
            replace HP := hidden (HP.out.then_ hgot.run hgot.tell.grow)
            have HDB := hidden hdb
            have HTB2 := hidden hgot.tell
            have HLB := hidden (Does.left (fun _ e => by cases e) hdb _ _ HLK.out)
            obtain ⟨k2, hk2⟩ : ∃ k2, k2 = kidO v2 := ⟨_, rfl⟩
            rw [← hk2]
            have HK2 := hidden hk2
            clear hdb hgot hk2
            go_wp2_with (at_builtin; refine wpList_kid rfl (.tmp 57) (.tmp 60) rfl wn.heap.size wb (.slice lb1 A1 lcp1) acc1 k2 rfl rfl HP.out.now HP.out.fr.size (by have := HL1.out; omega) ?_; intro v3 w6 h3 hg3 hw3; obtain ⟨va, vc3, hv3⟩ := own_shape5 h3; obtain ⟨R3, hr3⟩ := HP.out.push (k := k2) (by rw [HK2.out]; exact HTB2.out.kidIn) h3 hg3 hw3; have HR3 := hidden hr3; clear hr3 h3 hg3 hw3; rw [List.length_append, List.length_singleton] at hv3; subst hv3)
            refine (HR3.out.lay 25 (kd : Int) X tb HBN.out (HLB.out.self.mono (by omega) (by omega)) (by rw [List.length_append, List.length_singleton]; have := HL1.out; omega)).mono ?_
            rintro en wl ⟨u3, Rl, hdu, hgot, hlu⟩
            obtain rfl := hgot.en
            have HDU := hidden hdu
            have HLU := hidden (hlu _ _ HLB.out)
            have HGF : Hid (Grow (nameO o3) (toO u3)) := ((HGP.out.trans Grow.kind).trans HTB2.out.grow).trans hgot.tell.grow
            replace HS := hidden (HS.out.then_ hgot.run HGF.out)
            have HTL := hidden hgot.tell
            obtain ⟨k3, hk3⟩ : ∃ k3, k3 = kidO u3 := ⟨_, rfl⟩
            rw [← hk3]
            have HK3 := hidden hk3
            clear hdu hgot hk3 hlu HP HR3
            go_wp2_with (at_builtin; refine wpList_kid rfl (.tmp 62) (.tmp 70) rfl W3.heap.size wl (.slice la A lcp) acc k3 rfl rfl HS.out.now HS.out.fr.size (by have := H201.out; omega) ?_; intro v4 w7 h4 hg4 hw4; obtain ⟨va4, vc4, hv4⟩ := own_shape5 h4; obtain ⟨R4, hr4⟩ := HS.out.push (k := k3) (by rw [HK3.out]; exact HTL.out.kidIn) h4 hg4 hw4; have HR4 := hidden hr4; clear hr4 h4 hg4 hw4; rw [List.length_append, List.length_singleton] at hv4; subst hv4)
            have HFN : Hid (Does o3 (fun s n => prd n .func 0 s) u3) := by
              refine Does.qfunc HTB.out HDP.out HQ1.out HDB.out ?_
              rw [← HK2.out, ← HKD.out, ← HX.out]
              exact HDU.out
            go_roundw
            case rel =>
              refine ⟨toO u3, R4, acc ++ [k3], HR4.out, HLU.out.self.mono (by have := HSP.out; have := HLL.out; omega) (by have := HSP.out; have := HLL.out; omega), by rw [List.length_append, List.length_singleton]; have := H200.out s rfl; omega, fun s' hs' => ?_, fun u hu => HCT.out u ?_⟩
              · rw [List.length_append, List.length_singleton]
                have := HA2.out
                omega
              · exact Does.prog_step HKZ.out HA2.out (by rw [← HO3.out]; exact HFN.out) (by rw [← HK3.out]; exact hu)
            case measure =>
              show qlam g L.length w7 < qlam g L.length _
              rw [← HWO.out, HLAM.out]
              have h1 := HSP.out
              have h2 := HR4.out.any
              have h3 := HLU.out
              cases hv : toO u3 with
              | error f => rw [hv] at h2; rw [QBad.qlam h2]; omega
              | ok s3 => rw [hv] at h2 h3; rw [QGood.qlam h2]; have := (h3 s3 rfl).2; omega
  · have HTL := hidden hTl
    have HNZ : Hid (x ≠ 0) := T_err hTl
    obtain ⟨W6, hW6⟩ : ∃ W6, W6 = w1.alloc (.cells #[.int .i64 (x : Int), .int .i64 (q : Int)] 26) := ⟨_, rfl⟩
    obtain ⟨A2, hA2⟩ : ∃ A2, A2 = w1.heap.size := ⟨_, rfl⟩
    have HN6 : Hid (Held W6 A2 26 #[.int .i64 (x : Int), .int .i64 (q : Int)]) := by rw [hW6, hA2]; exact Held.new _ _ _
    have hb6 : Below w1.heap.size w1 W6 := by rw [hW6]; exact (Below.refl _ _).alloc (Nat.le_refl _) _
    have HBX : Hid (Below W.heap.size W W6) := hb.trans (hb6.mono hb.size)
    have HM6 : Hid (Held W6 A0 26 #[.int .i64 0, .int .i64 0]) := HG.out.since HBX.out
    have HALL : Hid (Below w.heap.size w W6) := HB.out.trans (HBX.out.mono HB.out.size)
    clear hTl hb hb6
    go_wp2_with fail
    rw [← hW6, ← hA2]
    clear hW6 hA2
    have y0 : W6.cell? ⟨A2, 0, none⟩ = some (.int .i64 (x : Int)) := HN6.out.at_ rfl
    have y1 : W6.cell? ⟨A2, 1, none⟩ = some (.int .i64 (q : Int)) := HN6.out.at_ rfl
    have hxb : ((x : Int) != 0) = true := by have := HNZ.out; simp; omega
    refine wp_veil ?_
    go_wp2_with fail
    go_still_tail 2, (by kernel_rfl)
    change wpList _ _ _ _ _ W6.drew
    have HD6 : Hid (Held W6.drew A0 26 #[.int .i64 0, .int .i64 0]) := HM6.out.block rfl
    have x0 : W6.drew.cell? ⟨A0, 0, none⟩ = some (.int .i64 0) := HD6.out.at_ rfl
    have x1 : W6.drew.cell? ⟨A0, 1, none⟩ = some (.int .i64 0) := HD6.out.at_ rfl
    have e0 := HD6.out.frozen 0
    have e1 := HD6.out.frozen 1
    obtain ⟨W7, hW7⟩ : ∃ W7, W7 = W6.drew := ⟨_, rfl⟩
    have HB7 : Hid (Below w.heap.size w W7) := by rw [hW7]; exact HALL.out.trans ((below_drew W6).mono HALL.out.size)
    rw [← hW7] at x0 x1 e0 e1 HD6 ⊢
    clear hW7
    go_wp2_with fail
    obtain ⟨W', hW', hH, hBel⟩ := two_told HD6.out HB7.out HAL.out (.int .i64 (x : Int)) (.int .i64 (q : Int))
    rw [← hW']
    have r0 : W'.cell? ⟨A0, 0, none⟩ = some (.int .i64 (x : Int)) := hH.at_ rfl
    have r1 : W'.cell? ⟨A0, 1, none⟩ = some (.int .i64 (q : Int)) := hH.at_ rfl
    clear hW' hH
    exact bodyPost_ret (v := .tuple #[.slice none 0 0, .agg #[.int .i64 (x : Int), .int .i64 (q : Int)]]) (by simp [results, Tryz.results6, go_sem, r0, r1]) rfl ⟨hBel, .inl ⟨x, q, HTL.out, rfl⟩⟩
end Go.Proofs.YtagacfcpepoaoaaGreatDoor
