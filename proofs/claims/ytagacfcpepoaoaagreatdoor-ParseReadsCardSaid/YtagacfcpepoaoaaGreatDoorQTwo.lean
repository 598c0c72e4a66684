/- RefTwo, QuoteName, in one text. -/
import Derived.Test.YtagacfcpepoaoaaGreatDoorRefFirst
namespace Go.Proofs.YtagacfcpepoaoaaGreatDoor
open Go.RowKit
set_option linter.unusedVariables false

variable {B g : Nat} {L : List Tk} {w0 w w' : World} {R0 R R' : Bx} {d d' : Nat} {o o' o1 : Except Flt PS}
def QTwoC (B g : Nat) (L : List Tk) (lv M : Nat) : Prop := ∀ (S : Int) w R d o, S = (lv : Int) + 1 → QAny B g L w R d o → (∀ s, o = .ok s → d ≤ 200) → Lim o L.length M → Calls Tryz.prog 97 #[.pointer (some ⟨g, 0, none⟩), .int .i64 S] w (QDone B g L w R d o (fun s n => rd n (.chain lv) d s))
theorem QAny.held_z {G : Nat} {t : TypeId} {cs : Array Value} (H : QAny B g L w R d o) (F : Fr g w w' R R') (h : Held w G t cs) (h1 : t ≠ 47) (h2 : t ≠ 59) (hz : R.Z G) : Held w' G t cs := by
  obtain ⟨p, l, hh, dd, e, q, H⟩ := H.core
  refine h.block (F.block G h.lt ?_ (own_ne H.own h (fun e => h2 e.symm)) (H.zone G hz).2.1)
  intro e
  subst e
  have h4 : w.heap[G]? = _ := H.box
  have h5 : w.heap[G]? = _ := h
  rw [h4] at h5
  injection h5 with h6
  injection h6 with _ h7
  exact h1 h7.symm
/-- .. beside the signs of a strength, and their operators -/
structure QSgn (B g : Nat) (L : List Tk) (w0 : World) (R0 : Bx) (d : Nat) (w : World) (R : Bx) (o : Except Flt PS) (lv b1 b2 : Nat) : Prop extends QRun B g L w0 R0 d w R o where
  sg : Held w b1 9 (strsOf (sgnsOf lv))
  op : Held w b2 3 (opsOf lv)
  zb : R.Z b2
theorem QSgn.step {lv b1 b2 : Nat} (H : QSgn B g L w0 R0 d w R o lv b1 b2) (hA : QAny B g L w' R' d' o') (F : Fr g w w' R R') (hz : ∀ k, R.Z k → R'.Z k) : QSgn B g L w0 R0 d' w' R' o' lv b1 b2 :=
  ⟨H.toQRun.step hA F hz, H.any.held F H.sg (by decide) (by decide) (H.any.vn_ne H.sg (by decide)), H.any.held_z F H.op (by decide) (by decide) H.zb, hz _ H.zb⟩
theorem QSgn.then_ {lv b1 b2 : Nat} (H : QSgn B g L w0 R0 d w R o lv b1 b2) (K' : QRun B g L w R d' w' R' o') : QSgn B g L w0 R0 d' w' R' o' lv b1 b2 := H.step K'.any K'.fr K'.z
theorem QSgn.below {lv b1 b2 : Nat} (H : QSgn B g L w0 R0 d w R o lv b1 b2) (hb : Below w.heap.size w w') : QSgn B g L w0 R0 d w' R o lv b1 b2 := H.step (H.any.below hb) (Fr.of_below R hb) (fun _ h => h)
theorem QAny.sgn {lv b1 b2 : Nat} (H : QAny B g L w R d o) (hb : Below w.heap.size w w') (h1 : Held w' b1 9 (strsOf (sgnsOf lv))) (h2 : Held w' b2 3 (opsOf lv)) (h3 : w.heap.size ≤ b2) : QSgn B g L w R d w' { R with Z := fun k => R.Z k ∨ k = b2 } o lv b1 b2 :=
  ⟨⟨H.widen hb _ (fun k hk => by
      rcases hk with hk | hk
      · exact .inl hk
      · exact .inr ⟨by omega, by have := h2.lt; omega⟩), by
      have F := Fr.of_below (g := g) R hb
      exact ⟨F.os, F.tape, F.output, F.size, F.block, F.vn, F.vh⟩, fun k hk => .inl hk⟩, h1, h2, .inr rfl⟩
/-- two, on the way: over, or ahead of a sign -/
def QTwoSt (B g : Nat) (L : List Tk) (M : Nat) (w0 : World) (R0 : Bx) (d : Nat) (o : Except Flt PS) (lv b1 b2 : Nat) (t7 t8 : Value) (wr : World) : Prop :=
  ∃ (o1 : Except Flt PS) (R1 : Bx) (p k : Int), t7 = .int .i64 p ∧ t8 = .int .i64 k ∧ QSgn B g L w0 R0 d wr R1 o1 lv b1 b2 ∧ Lim o1 L.length M ∧ Grow o o1 ∧ KidIn o1 p ∧ (∀ f, o1 = .error f → p = -1) ∧
    ((k = -1 ∧ Does o (fun s n => rd n (.chain lv) d s) (endO p o1)) ∨
     (∃ (i : Nat) (s : PS), k = (i : Int) ∧ i < opLast lv + 1 - opFirst lv ∧ o1 = .ok s ∧ opAt lv s.tok = some (opFirst lv + i) ∧ s.is (tSigns.getD (opFirst lv + i) []) = true ∧ ∀ u, Does o1 (fun s n => rd n (.loop lv p) d s) u → Does o (fun s n => rd n (.chain lv) d s) u))
/-- how much is left to be read, if it goes on -/
def twoM (g n : Nat) (t8 : Value) (w : World) : Nat := if intOf t8 = -1 then 0 else qlam g n w
theorem QTwoSt.of {lv b1 b2 M : Nat} {p k : Int} (HS : QSgn B g L w0 R0 d w R o1 lv b1 b2) (hl : Lim o1 L.length M) (hg : Grow o o1) (hk : KidIn o1 p) (he : ∀ f, o1 = .error f → p = -1) (h1 : OneAt (sgnsOf lv) o1 k) (hc : ∀ u, Does o1 (fun s n => rd n (.loop lv p) d s) u → Does o (fun s n => rd n (.chain lv) d s) u) : QTwoSt B g L M w0 R0 d o lv b1 b2 (.int .i64 p) (.int .i64 k) w := by
  rcases h1.op with ⟨h1, h2⟩ | ⟨i, hi, h1, s, h3, h4, h5⟩
  · exact ⟨o1, R, p, k, rfl, rfl, HS, hl, hg, hk, he, .inl ⟨h1, hc _ (Does.loop_end h2)⟩⟩
  · exact ⟨o1, R, p, k, rfl, rfl, HS, hl, hg, hk, he, .inr ⟨i, s, h1, hi, h3, h4, h5, hc⟩⟩
theorem ops_few {lv : Nat} (h : lv < 5) : opLast lv + 1 - opFirst lv ≤ 6 ∧ 1 ≤ opLast lv + 1 - opFirst lv ∧ opLast lv ≤ 16 := by
  match lv, h with
  | 0, _ | 1, _ | 2, _ | 3, _ | 4, _ => decide
set_option maxRecDepth 100000 in
theorem qtwo5_of {M : Nat} (hU : QUnaryC B g L M) : QTwoC B g L 5 M := by
  intro S w R d o hS H hd hl
  obtain rfl : S = 6 := by omega
  have HC := hidden (hU w R d o H hd hl)
  clear hU H hS
  go_enter Tryz.func97, Tryz.ntmps97
  go_wp2_with fail
  refine HC.out.mono ?_
  rintro en w2 ⟨u, R2, hdo, hgot⟩
  obtain rfl := hgot.en
  have HDO := hidden hdo
  have HG := hidden hgot
  clear hdo hgot
  go_wp2_with fail
  go_ret
  exact ⟨u, R2, HDO.out.chain5, HG.out⟩
set_option maxRecDepth 100000 in
set_option maxHeartbeats 20000000 in
theorem qtwo_of {lv M : Nat} (hlv : lv < 5) (hC : QTwoC B g L (lv + 1) M) : QTwoC B g L lv M := by
  intro S w R d o hS H hd hl
  have HIH : Hid (∀ w R d o, QAny B g L w R d o → (∀ s, o = .ok s → d ≤ 200) → Lim o L.length M → Calls Tryz.prog 97 #[.pointer (some ⟨g, 0, none⟩), .int .i64 (S + 1)] w (QDone B g L w R d o (fun s n => rd n (.chain (lv + 1)) d s))) := fun w R d o h1 h2 h3 => hC (S + 1) w R d o (by omega) h1 h2 h3
  have HDD := hidden hd
  have HL := hidden hl
  have HA := hidden H
  obtain ⟨nn, hnn⟩ : ∃ nn, nn = opLast lv + 1 - opFirst lv := ⟨_, rfl⟩
  have HSG := hidden (q_signs (w := w) hlv hnn S hS)
  have hfew := ops_few hlv
  rw [← hnn] at hfew
  have HNN := hidden hnn
  have HLV := hidden hlv
  have HSS := hidden hS
  have hS1 : ¬ (5 < S) := by omega
  have hS2 : S ≤ 5 := by omega
  have hS3 : 1 ≤ S := by omega
  have HL5 : Hid (lv ≠ 5) := by show lv ≠ 5; omega
  have HFEW := hidden hfew
  have hfd := field_at
  clear H hd hl hC hnn hlv hS
  go_enter Tryz.func97, Tryz.ntmps97
  rw [veil 10, veil 12]
  go_wp2_with fail
  refine HSG.out.mono ?_
  rintro en w1 ⟨b1, b2, rfl, hs1, hs2, hs3, hs4, hb⟩
  have HS := hidden (HA.out.sgn hb hs1 hs2 hs4)
  clear HSG hs1 hs2 hs3 hs4 hb
  go_wp2_with fail
  refine (HIH.out _ _ _ _ HS.out.any HDD.out HL.out).mono ?_
  rintro en w2 ⟨v, R2, hdo, hgot⟩
  obtain rfl := hgot.en
  replace HS := hidden (HS.out.then_ hgot.run)
  have HDO := hidden hdo
  have HT := hidden hgot.tell
  obtain ⟨p0, hp0⟩ : ∃ p0, p0 = kidO v := ⟨_, rfl⟩
  rw [← hp0]
  have HP0 := hidden hp0
  clear hdo hgot hp0
  go_wp2_with fail
  refine (q_one (sgnsOf lv) b1 nn (by rw [sgns_length]; exact HNN.out) HS.out.sg (by rw [sgns_length, ← HNN.out]; have := HFEW.out; omega) HS.out.any).mono ?_
  rintro en w3 ⟨k0, rfl, hb, hk⟩
  replace HS := hidden (HS.out.below hb)
  have HQ : Hid (QTwoSt B g L M w R d o lv b1 b2 (.int .i64 p0) (.int .i64 k0) w3) := by
    rw [HP0.out]
    exact QTwoSt.of HS.out (Does.left_rd HDO.out _ _ HL.out) HT.out.grow HT.out.kidIn Out.err_kid hk (fun u hu => Does.chain HL5.out HDO.out hu)
  clear hb hk HDO HT HP0 HS
  go_wp2_with fail
  go_loopw [7, 8] (fun t7 t8 wr => Hid (QTwoSt B g L M w R d o lv b1 b2 t7 t8 wr)) (fun _ t8 wr => twoM g L.length t8 wr)
  case atStart => exact HQ
  case round =>
    obtain ⟨o1, R1, p, k, rfl, rfl, hsg, hlim, hgr, hki, her, hst⟩ := hrel.out
    have HS := hidden hsg
    have HLM := hidden hlim
    have HGR := hidden hgr
    have HKI := hidden hki
    have HER := hidden her
    clear hrel hsg hlim hgr hki her HQ
    obtain ⟨wo, hwo⟩ : ∃ wo, wo = wr := ⟨_, rfl⟩
    have HWO := hidden hwo
    clear hwo
    rcases hst with ⟨rfl, hdz⟩ | ⟨i, s, rfl, hi, rfl, hop, his, hct⟩
    · have HDZ := hidden hdz
      clear hdz
      go_wp2_with fail
      go_ret
      exact ⟨endO p o1, R1, HDZ.out, ⟨⟨by rw [toO_end]; exact HS.out.any, HS.out.fr, HS.out.z⟩, by rw [kidO_end HER.out]; rfl, QTell.end_ HKI.out HGR.out⟩⟩
    · have HI := hidden hi
      have hin : i < nn := by rw [HNN.out]; exact hi
      have hin2 : (i : Int) < (nn : Int) := by omega
      have hi0 : (0 : Int) ≤ (i : Int) := by omega
      have HIN := hidden hin
      have HOP := hidden hop
      have HIS := hidden his
      have HCT := hidden hct
      have HNX := hidden (is_some his)
      have HL0 := hidden (HLM.out s rfl)
      have HDS : Hid (d ≤ 200) := by obtain ⟨s0, h1, _⟩ := HGR.out s rfl; exact HDD.out s0 h1
      have HLAM : Hid (qlam g L.length wo = s.r.length) := by rw [HWO.out]; exact QGood.qlam HS.out.any
      have HKZ : Hid (s.tok.kind ≠ 0) := sees_nz his
      clear hi hop his hct hin
      obtain ⟨tk, tn, ta, tx, hta, hcall⟩ := q_now' HS.out.any
      have HTA := hidden hta
      have HC := hidden hcall
      clear hta hcall
      go_wp2_with fail
      refine HC.out.mono ?_
      rintro en w4 ⟨rfl, hb⟩
      replace HS := hidden (HS.out.below hb)
      clear hb HC
      obtain ⟨pp, c1, f1, hp, hg, hf⟩ := QGood.take (s := s) HS.out.any HKZ.out
      obtain ⟨W, hW⟩ : ∃ W, W = w4.setCell ⟨g, 1, none⟩ (.int .i64 ((pp : Int) + 1)) := ⟨_, rfl⟩
      rw [← hW] at hg hf
      replace HS := hidden (HS.out.step (o' := .ok s.next) hg hf (fun _ h => h))
      have HLN : Hid (Lim (.ok s.next) (L.length - 1) (M - 1)) := by
        have h1 := HNX.out
        have h2 := HL0.out
        have h3 : s.next.l = s.l := rfl
        intro s' e
        injection e with e
        subst e
        rw [h3]
        exact ⟨by omega, by omega⟩
      clear hg hf
      go_wp2_with fail
      rw [← hW]
      clear hW c1 f1
      refine (HIH.out _ _ _ _ HS.out.any (fun _ _ => HDS.out) (HLN.out.mono (by omega) (by omega))).mono ?_
      rintro en w5 ⟨v2, R5, hdo, hgot⟩
      obtain rfl := hgot.en
      replace HS := hidden (HS.out.then_ hgot.run)
      have HDO := hidden hdo
      have HT := hidden hgot.tell
      have HLV2 := hidden (Does.left_rd hdo _ _ HLN.out)
      have HLV3 := hidden (Does.left_rd hdo _ _ (show Lim (.ok s.next) (s.next.l.length + s.next.r.length) s.next.r.length from fun s' e => by injection e with e; subst e; exact ⟨Nat.le_refl _, Nat.le_refl _⟩))
      obtain ⟨k2, hk⟩ : ∃ k2, k2 = kidO v2 := ⟨_, rfl⟩
      rw [← hk]
      have HK := hidden hk
      clear hdo hgot hk
      have c0 := ops_at HS.out.op HI.out
      obtain ⟨opn, hopn⟩ : ∃ opn, opn = opFirst lv + i := ⟨_, rfl⟩
      rw [← hopn] at c0
      have HOPN := hidden hopn
      clear hopn
      go_wp2_with fail
      refine wp_veil ?_
      go_wp2_with fail
      refine (lay_new 5 [p, k2] (opn : Int) ⟨#[]⟩ ta #[.int .i64 p, .int .i64 k2] rfl 2 rfl HS.out.any (fun j hj => by
        rcases List.mem_cons.1 hj with rfl | hj
        · exact HKI.out.grow (Grow.next.trans HT.out.grow)
        · rw [List.mem_singleton.1 hj, HK.out]; exact HT.out.kidIn) (HLV2.out.self.mono (by omega) (by omega)) (by simp)).mono ?_
      rintro en w6 ⟨u, R6, hdu, hgot, hlu⟩
      obtain rfl := hgot.en
      replace HS := hidden (HS.out.then_ hgot.run)
      have HDU := hidden hdu
      have HT2 := hidden hgot.tell
      have HLU := hidden (hlu _ _ HLV2.out)
      have HLU3 := hidden (hlu _ _ HLV3.out)
      obtain ⟨k3, hk⟩ : ∃ k3, k3 = kidO u := ⟨_, rfl⟩
      rw [← hk]
      have HK3 := hidden hk
      clear hdu hgot hlu hk c0
      go_wp2_with fail
      refine (q_one (sgnsOf lv) b1 nn (by rw [sgns_length]; exact HNN.out) HS.out.sg (by rw [sgns_length, ← HNN.out]; have := HFEW.out; omega) HS.out.any).mono ?_
      rintro en w7 ⟨k7, rfl, hb, hk7⟩
      replace HS := hidden (HS.out.below hb)
      have HK7 := hidden hk7
      clear hb hk7
      have HGZ : Hid (Grow o (toO u)) := ((HGR.out.trans Grow.next).trans HT.out.grow).trans HT2.out.grow
      have HLZ : Hid (Lim (toO u) L.length M) := HLU.out.mono (by have := HL0.out; have := HNX.out; omega) (by omega)
      have HMS : Hid (qlam g L.length w7 < s.r.length) := by
        have h1 := HNX.out
        have h2 := HS.out.any
        have h3 := HLU3.out
        show _ < _
        cases hv : toO u with
        | error f => rw [hv] at h2; rw [QBad.qlam h2]; omega
        | ok s3 => rw [hv] at h2 h3; rw [QGood.qlam h2]; have := (h3 s3 rfl).2; omega
      have HPU : Hid (Does (toO v2) (fun s1 _ => some (lay (En 5 [p, kidO v2] (opFirst lv + i : Nat) ⟨#[]⟩ s.tok.place) s1)) u) := by
        rw [← (HTA.out s rfl).2.2.1, ← HK.out, ← HOPN.out]
        exact HDU.out
      have HM0 : Hid (1 ≤ twoM g L.length (.int .i64 (i : Int)) wo) := by
        show 1 ≤ twoM _ _ _ _
        unfold twoM
        rw [if_neg (by show ¬ (i : Int) = -1; omega), HLAM.out]
        have := HNX.out
        omega
      have HM1 : Hid (twoM g L.length (.int .i64 (i : Int)) wo = s.r.length) := by
        show twoM _ _ _ _ = _
        unfold twoM
        rw [if_neg (by show ¬ (i : Int) = -1; omega), HLAM.out]
      go_wp2_with fail
      refine wp_veil ?_
      by_cases h3 : S = 3
      · have h3b : (S == 3) = true := by simp [h3]
        have HV2 : Hid (lv = 2) := by show _ = _; have := HSS.out; omega
        clear h3
        go_wp2_with fail
        go_roundw
        case rel =>
          refine ⟨toO u, R6, k3, -1, rfl, rfl, HS.out, HLZ.out, HGZ.out, by rw [HK3.out]; exact HT2.out.kidIn, by rw [HK3.out]; exact Out.err_kid, .inl ⟨rfl, HCT.out _ ?_⟩⟩
          rw [HK3.out]
          exact Does.loop_once HOP.out HV2.out HDO.out HPU.out
        case measure =>
          show twoM g L.length (.int .i64 (-1)) w7 < twoM g L.length (.int .i64 (i : Int)) _
          rw [← HWO.out]
          have := HM0.out
          show (if (-1 : Int) = -1 then _ else _) < _
          rw [if_pos rfl]
          omega
      · have h3b : (S == 3) = false := by simp [h3]
        have HV2 : Hid (lv ≠ 2) := by show _ ≠ _; have := HSS.out; omega
        clear h3
        go_wp2_with fail
        go_roundw
        case rel =>
          refine QTwoSt.of HS.out HLZ.out HGZ.out (by rw [HK3.out]; exact HT2.out.kidIn) (by rw [HK3.out]; exact Out.err_kid) HK7.out (fun x hx => HCT.out x ?_)
          refine Does.loop_next HOP.out HV2.out HDO.out HPU.out ?_
          rw [← HK3.out]
          exact hx
        case measure =>
          show twoM g L.length (.int .i64 k7) w7 < twoM g L.length (.int .i64 (i : Int)) _
          rw [← HWO.out, HM1.out]
          have h1 := HMS.out
          have h2 := HNX.out
          unfold twoM
          split
          · omega
          · exact h1
set_option maxRecDepth 100000 in
theorem qexpr_of {M : Nat} (h : QTwoC B g L 0 M) : QExprC B g L M := by
  intro w R d o H hd hl
  have HC := hidden (h 1 w R d o rfl H hd hl)
  clear h H
  go_enter Tryz.func82, Tryz.ntmps82
  go_wp2_with fail
  refine HC.out.mono ?_
  rintro en w2 ⟨u, R2, hdo, hgot⟩
  obtain rfl := hgot.en
  have HDO := hidden hdo
  have HG := hidden hgot
  clear hdo hgot HC
  have HE := hidden (HDO.out.one_rd (fun _ e => by cases e))
  obtain ⟨o1, ho1⟩ : ∃ o1, o1 = toO u := ⟨_, rfl⟩
  have HO1 := hidden ho1
  obtain ⟨k, hk⟩ : ∃ k, k = kidO u := ⟨_, rfl⟩
  have HK := hidden hk
  rw [← hk]
  have HA : Hid (QAny B g L w2 R2 d o1) := by rw [ho1]; exact HG.out.run.any
  clear ho1 hk
  cases o1 with
  | error f =>
    obtain ⟨e, c5, he⟩ := q_err5 HA.out
    have hen : (e != 0) = true := by simpa using he
    clear he
    go_wp2_with fail
    go_ret
    refine ⟨u, R2, HDO.out, ⟨HG.out.run, ?_, HG.out.tell⟩⟩
    rw [Out.err_kid f HO1.out.symm]
    rfl
  | ok s =>
    have c5 := q_ok5 HA.out
    go_wp2_with fail
    go_ret
    exact ⟨u, R2, HDO.out, ⟨HG.out.run, by rw [HK.out]; rfl, HG.out.tell⟩⟩
theorem qtwos_of {M : Nat} (h : QUnaryC B g L M) : QExprC B g L M :=
  qexpr_of (qtwo_of (by decide) (qtwo_of (by decide) (qtwo_of (by decide) (qtwo_of (by decide) (qtwo_of (by decide) (qtwo5_of h))))))
/-- what the reference's unary and Expr read, of whatever is left -/
theorem q_all (B g : Nat) (L : List Tk) (M : Nat) : QUnaryC B g L M ∧ QExprC B g L M := by
  induction M using Nat.strongRecOn with
  | ind M ih =>
    have hE : ∀ m, m < M → QExprC B g L m := fun m hm => (ih m hm).2
    have h1 : QUnaryC B g L M := qunary_of (fun m hm => (ih m hm).1) (fun w R d o H hd hl => qindexed_of hE (qfirst_of hE H hd hl) hd hl)
    exact ⟨h1, qtwos_of h1⟩
end Go.Proofs.YtagacfcpepoaoaaGreatDoor

namespace Go.Proofs.YtagacfcpepoaoaaGreatDoor
open Go.RowKit
set_option linter.unusedVariables false

variable {B g : Nat} {L : List Tk} {w0 w w' : World} {R0 R R' : Bx} {d d' : Nat} {o o' o1 : Except Flt PS}
theorem QRun.same (H : QRun B g L w R d w' R o) : QAny B g L w' R d o ∧ Fr g w w' R R := ⟨H.any, H.fr⟩
set_option maxRecDepth 100000 in
set_option maxHeartbeats 20000000 in
theorem q_name (H : QAny B g L w R d o) :
    Calls Tryz.prog 19 #[.pointer (some ⟨g, 0, none⟩)] w fun en w' => ∃ ta : Nat, en = .returned (.tuple #[.string (nmO o), .int .i64 (ta : Int)]) ∧ (∀ s, o = .ok s → ta = s.tok.place) ∧ QAny B g L w' R d (nameO o) ∧ Fr g w w' R R := by
  have HQ := hidden (QRun.start H)
  obtain ⟨tk, tn, ta, tx, hta, hcall⟩ := q_now' H
  have HTA := hidden hta
  have HC := hidden hcall
  clear H hta hcall
  go_enter Tryz.func19, Tryz.ntmps19
  rw [veil 2, veil 3]
  go_wp2_with fail
  refine HC.out.mono ?_
  rintro en w1 ⟨rfl, hb⟩
  have HS := hidden ((HQ.out.below hb).tok (.int .i64 (tk : Int)) (.string tx) (.int .i64 (tn : Int)) (.int .i64 (ta : Int)))
  clear hb HC HQ
  go_wp2_with fail
  obtain ⟨W0, hW0⟩ : ∃ W0, W0 = w1.alloc (.cells #[.int .i64 (tk : Int), .string tx, .int .i64 (tn : Int), .int .i64 (ta : Int)] 49) := ⟨_, rfl⟩
  obtain ⟨G, hG⟩ : ∃ G, G = w1.heap.size := ⟨_, rfl⟩
  rw [← hW0, ← hG] at HS ⊢
  clear hW0 hG
  refine wp_veil ?_
  have z0 : W0.cell? ⟨G, 0, none⟩ = some (.int .i64 (tk : Int)) := HS.out.tok.at_ rfl
  have z3 : W0.cell? ⟨G, 3, none⟩ = some (.int .i64 (ta : Int)) := HS.out.tok.at_ rfl
  cases o with
  | error f =>
    obtain ⟨e, c5, he⟩ := q_err5 HS.out.any
    have hen : (e != 0) = true := by simpa using he
    clear he
    go_wp2_with fail
    refine wp_veil ?_
    go_wp2_with fail
    refine (q_fail 8 ta (by decide) HS.out.any).mono ?_
    rintro en w2 ⟨⟨x2, rfl⟩, ha, hf⟩
    replace HS := hidden (HS.out.step ha hf (fun _ h => h))
    clear ha hf c5 z0 z3
    have z3 : w2.cell? ⟨G, 3, none⟩ = some (.int .i64 (ta : Int)) := HS.out.tok.at_ rfl
    go_wp2_with fail
    go_quiet (fail)
    go_wp2_with fail
    go_ret2
    exact ⟨ta, rfl, fun s hs => (by cases hs), (HS.out.below (below_drewN _ _ _)).any, (HS.out.below (below_drewN _ _ _)).fr⟩
  | ok s =>
    have c5 := q_ok5 HS.out.any
    obtain ⟨hk, _, hp, hx⟩ := HTA.out s rfl
    have HTP := hidden hp
    have HTX := hidden hx
    have HTK := hidden hk
    clear hk hp hx HTA
    by_cases h1 : tk = 1
    · have h1i : ((tk : Int) != 1) = false := by simp [h1]
      have HK1 : Hid (s.tok.kind = 1) := by show _ = _; rw [← HTK.out]; exact h1
      clear h1
      obtain ⟨pp, c1, f1, hp, hg, hf⟩ := QGood.take (s := s) HS.out.any (by have := HK1.out; omega)
      obtain ⟨W, hW⟩ : ∃ W, W = W0.setCell ⟨g, 1, none⟩ (.int .i64 ((pp : Int) + 1)) := ⟨_, rfl⟩
      rw [← hW] at hg hf
      replace HS := hidden (HS.out.step (o' := .ok s.next) hg hf (fun _ h => h))
      clear hg hf
      go_wp2_with fail
      rw [← hW]
      clear hW c1 f1 c5 z0 z3
      have z1 : W.cell? ⟨G, 1, none⟩ = some (.string tx) := HS.out.tok.at_ rfl
      have z3 : W.cell? ⟨G, 3, none⟩ = some (.int .i64 (ta : Int)) := HS.out.tok.at_ rfl
      go_wp2_with fail
      go_quiet (fail)
      go_wp2_with fail
      go_ret2
      refine ⟨ta, by rw [nmO_yes HK1.out, ← HTX.out]; rfl, fun s' hs => by injection hs with hs; subst hs; exact HTP.out, ?_, (HS.out.below (below_drewN _ _ _)).fr⟩
      rw [nameO_yes HK1.out]
      exact (HS.out.below (below_drewN _ _ _)).any
    · have h1i : ((tk : Int) != 1) = true := by simp; omega
      have HK1 : Hid (s.tok.kind ≠ 1) := by show _ ≠ _; rw [← HTK.out]; exact h1
      clear h1
      go_wp2_with fail
      refine wp_veil ?_
      go_wp2_with fail
      refine (q_fail 8 ta (by decide) HS.out.any).mono ?_
      rintro en w2 ⟨⟨x2, rfl⟩, ha, hf⟩
      replace HS := hidden (HS.out.step ha hf (fun _ h => h))
      clear ha hf c5 z0 z3
      have z3 : w2.cell? ⟨G, 3, none⟩ = some (.int .i64 (ta : Int)) := HS.out.tok.at_ rfl
      go_wp2_with fail
      go_quiet (fail)
      go_wp2_with fail
      go_ret2
      refine ⟨ta, by rw [nmO_no HK1.out]; rfl, fun s' hs => by injection hs with hs; subst hs; exact HTP.out, ?_, (HS.out.below (below_drewN _ _ _)).fr⟩
      rw [nameO_no HK1.out, ← HTP.out]
      exact (HS.out.below (below_drewN _ _ _)).any
theorem kindAt_int {s : PS} (h : s.is wInt = true) : kindAt s.tok = 1 := kd_of (i := 1) (by decide) (by decide) h
theorem kindAt_bool {s : PS} (h : s.is wBool = true) : kindAt s.tok = 2 := kd_of (i := 2) (by decide) (by decide) h
theorem kindAt_arr {s : PS} (h : s.is wArr = true) : kindAt s.tok = 3 := kd_of (i := 3) (by decide) (by decide) h
set_option maxRecDepth 100000 in
theorem q_kind (H : QAny B g L w R d o) :
    Calls Tryz.prog 21 #[.pointer (some ⟨g, 0, none⟩)] w fun en w' => en = .returned (.int .i64 ((kdO o : Nat) : Int)) ∧ QAny B g L w' R d (kindO o) ∧ Fr g w w' R R := by
  have HS := hidden (QRun.start H)
  have hfd := field_at
  clear H
  go_enter Tryz.func21, Tryz.ntmps21
  go_wp2_with fail
  refine (q_eats wInt HS.out.any).mono ?_
  rintro en w1 ⟨c, o', rfl, ha, hf, hc⟩
  rcases hc with ⟨rfl, s, rfl, hb, rfl⟩ | ⟨rfl, ho, h1⟩
  · replace HS := hidden (HS.out.step ha hf (fun _ h => h))
    have HK := hidden (kindAt_int hb)
    clear ha hf hb
    go_wp2_with fail
    go_ret
    exact ⟨by show _ = Ending.returned (.int .i64 ((kindAt s.tok : Nat) : Int)); rw [HK.out]; rfl, by rw [kindO_yes (by rw [HK.out]; decide)]; exact HS.out.any, HS.out.fr⟩
  rw [ho] at ha
  replace HS := hidden (HS.out.step ha hf (fun _ h => h))
  have H1 := hidden h1
  clear ha hf h1 ho
  go_wp2_with fail
  refine (q_eats wBool HS.out.any).mono ?_
  rintro en w2 ⟨c, o', rfl, ha, hf, hc⟩
  rcases hc with ⟨rfl, s, rfl, hb, rfl⟩ | ⟨rfl, ho, h2⟩
  · replace HS := hidden (HS.out.step ha hf (fun _ h => h))
    have HK := hidden (kindAt_bool hb)
    clear ha hf hb
    go_wp2_with fail
    go_ret
    exact ⟨by show _ = Ending.returned (.int .i64 ((kindAt s.tok : Nat) : Int)); rw [HK.out]; rfl, by rw [kindO_yes (by rw [HK.out]; decide)]; exact HS.out.any, HS.out.fr⟩
  rw [ho] at ha
  replace HS := hidden (HS.out.step ha hf (fun _ h => h))
  have H2 := hidden h2
  clear ha hf h2 ho
  go_wp2_with fail
  refine (q_eats wArr HS.out.any).mono ?_
  rintro en w3 ⟨c, o', rfl, ha, hf, hc⟩
  rcases hc with ⟨rfl, s, rfl, hb, rfl⟩ | ⟨rfl, ho, h3⟩
  · replace HS := hidden (HS.out.step ha hf (fun _ h => h))
    have HK := hidden (kindAt_arr hb)
    clear ha hf hb
    go_wp2_with fail
    go_ret
    exact ⟨by show _ = Ending.returned (.int .i64 ((kindAt s.tok : Nat) : Int)); rw [HK.out]; rfl, by rw [kindO_yes (by rw [HK.out]; decide)]; exact HS.out.any, HS.out.fr⟩
  rw [ho] at ha
  replace HS := hidden (HS.out.step ha hf (fun _ h => h))
  have H3 := hidden h3
  clear ha hf h3 ho
  obtain ⟨tk, tn, ta, tx, hta, hcall⟩ := q_now' HS.out.any
  have HTA := hidden hta
  have HC := hidden hcall
  clear hta hcall
  go_wp2_with fail
  refine HC.out.mono ?_
  rintro en w4 ⟨rfl, hb⟩
  replace HS := hidden (HS.out.below hb)
  clear hb HC
  go_wp2_with fail
  refine (q_fail 8 ta (by decide) HS.out.any).mono ?_
  rintro en w5 ⟨⟨x5, rfl⟩, ha, hf⟩
  replace HS := hidden (HS.out.step ha hf (fun _ h => h))
  clear ha hf
  go_wp2_with fail
  go_ret
  cases o with
  | error f => exact ⟨rfl, HS.out.any, HS.out.fr⟩
  | ok s =>
    have h0 : kindAt s.tok = 0 := kd_none (fun j h1 h4 => by
      match j, h1, h4 with
      | 1, _, _ => exact H1.out s rfl
      | 2, _, _ => exact H2.out s rfl
      | 3, _, _ => exact H3.out s rfl)
    refine ⟨by show _ = Ending.returned (.int .i64 ((kindAt s.tok : Nat) : Int)); rw [h0]; rfl, ?_, HS.out.fr⟩
    rw [kindO_no h0, ← (HTA.out s rfl).2.2.1]
    exact HS.out.any
end Go.Proofs.YtagacfcpepoaoaaGreatDoor
