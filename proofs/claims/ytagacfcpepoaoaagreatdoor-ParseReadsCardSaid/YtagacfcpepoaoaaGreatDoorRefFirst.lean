/- The walks through the reference's indexed and first. -/
import Derived.Test.YtagacfcpepoaoaaGreatDoorQList
namespace Go.Proofs.YtagacfcpepoaoaaGreatDoor
open Go.RowKit
set_option linter.unusedVariables false

variable {B g : Nat} {L : List Tk} {w0 w w' : World} {R0 R R' : Bx} {d d' : Nat} {o o' o1 : Except Flt PS} {G : Nat} {K X N A : Value}
/-- something in brackets took a token at least -/
theorem Does.inner_left {a b : List UInt8} {s : PS} {v : Out} (h : Does (.ok s) (fun s n => Go.Proofs.YtagacfcpepoaoaaGreatDoor.rd n (.inner a b) d s) v) (n m : Nat) (hl : Lim (.ok s) n m) : Lim (toO v) (n - 1) (m - 1) := by
  match v, h with
  | .error f, _ => exact Lim.err
  | .ok (l, s1), h =>
    obtain ⟨n0, hn⟩ := h
    have h1 := hn n0 (Nat.le_refl _)
    have h0 := hl s rfl
    cases n0 with
    | zero => cases h1
    | succ n0 =>
      replace h1 : Go.Proofs.YtagacfcpepoaoaaGreatDoor.rd (n0 + 1) (.inner a b) d s = some (.ok (l, s1)) := h1
      rw [Go.Proofs.YtagacfcpepoaoaaGreatDoor.rd] at h1
      split at h1
      · rename_i ha
        have hp := is_some ha
        have e0 : s.next.l = s.l := rfl
        split at h1
        · cases h1
        · rcases go_ok h1 with ⟨e, _, h⟩ | ⟨p, s2, h2, h3⟩
          · cases h
          · have h5 := Reads.slack ⟨n0, h2⟩
            rw [e0] at h5
            split at h3
            · rename_i hb
              have hq := is_some hb
              have e2 : s2.next.l = s2.l := rfl
              injection h3 with h3
              injection h3 with h3
              injection h3 with _ h3
              subst h3
              intro s' e
              injection e with e
              subst e
              rw [e2]
              exact ⟨by omega, by omega⟩
            · cases h3
      · cases h1
/-- indexed, on the way -/
def QIdx (B g : Nat) (L : List Tk) (M : Nat) (w0 : World) (R0 : Bx) (d : Nat) (o : Except Flt PS) (t3 : Value) (wr : World) : Prop :=
  ∃ (o1 : Except Flt PS) (R1 : Bx) (p : Int), t3 = .int .i64 p ∧ QRun B g L w0 R0 d wr R1 o1 ∧ Lim o1 L.length M ∧ Grow o o1 ∧ KidIn o1 p ∧ (∀ f, o1 = .error f → p = -1) ∧
    ∀ u, Does o1 (fun s n => rd n (.more p) d s) u → Does o (fun s n => rd n .idx d s) u
theorem Out.err_kid {v : Out} : ∀ f, toO v = .error f → kidO v = -1 := fun f e => by
  match v, e with
  | .error f', _ => rfl
  | .ok (l, s), e => cases e
set_option maxRecDepth 100000 in
set_option maxHeartbeats 20000000 in
theorem qindexed_of {M : Nat} (hE : ∀ m, m < M → QExprC B g L m) (hF : Calls Tryz.prog 109 #[.pointer (some ⟨g, 0, none⟩)] w (QDone B g L w R d o (fun s n => rd n .single d s))) (hd : ∀ s, o = .ok s → d ≤ 200) (hl : Lim o L.length M) : Calls Tryz.prog 106 #[.pointer (some ⟨g, 0, none⟩)] w (QDone B g L w R d o (fun s n => rd n .idx d s)) := by
  have HE := hidden hE
  have HFI := hidden hF
  have HDD := hidden hd
  have HL := hidden hl
  have hfd := field_at
  clear hE hd hl hF
  go_enter Tryz.func106, Tryz.ntmps106
  go_wp2_with fail
  refine HFI.out.mono ?_
  rintro en w1 ⟨v, R1, hdo, hgot⟩
  obtain rfl := hgot.en
  have HQ : Hid (QIdx B g L M w R d o (.int .i64 (kidO v)) w1) := ⟨toO v, R1, kidO v, rfl, hgot.run, Does.left_rd hdo _ _ HL.out, hgot.tell.grow, hgot.tell.kidIn, Out.err_kid, fun u hu => Does.idx hdo hu⟩
  have HDL : Hid (∀ s, toO v = .ok s → d ≤ 200) := fun s hs => by obtain ⟨s0, h1, _⟩ := hgot.tell.grow s hs; exact HDD.out s0 h1
  obtain ⟨k, hk⟩ : ∃ k, k = kidO v := ⟨_, rfl⟩
  rw [← hk] at HQ ⊢
  clear hdo hgot hk HFI
  go_wp2_with fail
  go_loopw [3] (fun t3 wr => Hid (QIdx B g L M w R d o t3 wr)) (fun _ wr => qlam g L.length wr)
  case atStart => exact HQ
  case round =>
    obtain ⟨o1, R1, p, rfl, hrun, hlim, hgr, hki, her, hcont⟩ := hrel.out
    have HS := hidden hrun
    have HLM := hidden hlim
    have HGR := hidden hgr
    have HKI := hidden hki
    have HER := hidden her
    have HCT := hidden hcont
    clear hrel hrun hlim hgr hki her hcont HQ
    obtain ⟨wo, hwo⟩ : ∃ wo, wo = wr := ⟨_, rfl⟩
    have HWO := hidden hwo
    clear hwo
    go_wp2_with fail
    refine (q_sees lb HS.out.any).mono ?_
    rintro en w2 ⟨c, rfl, hb, hc⟩
    rcases hc with ⟨rfl, s, hs, hb2⟩ | ⟨rfl, hb2⟩
    · subst hs
      have HLAM : Hid (qlam g L.length wo = s.r.length) := by rw [HWO.out]; exact QGood.qlam HS.out.any
      replace HS := hidden (HS.out.below hb)
      have HB := hidden hb2
      have HNX := hidden (is_some hb2)
      have HDS : Hid (d ≤ 200) := by obtain ⟨s0, h1, _⟩ := HGR.out s rfl; exact HDD.out s0 h1
      clear hb hb2
      obtain ⟨tk, tn, ta, tx, hta, hcall⟩ := q_now' HS.out.any
      have HTA := hidden hta
      have HC := hidden hcall
      clear hta hcall
      go_wp2_with fail
      refine HC.out.mono ?_
      rintro en w3 ⟨rfl, hb⟩
      replace HS := hidden (HS.out.below hb)
      clear hb HC
      go_wp2_with fail
      refine (qsquare_of HE.out HS.out.any (fun _ _ => HDS.out) HLM.out).mono ?_
      rintro en w4 ⟨v2, R4, hdo, hgot⟩
      obtain rfl := hgot.en
      replace HS := hidden (HS.out.then_ hgot.run)
      have HDO := hidden hdo
      have HT := hidden hgot.tell
      have HLV := hidden (hdo.inner_left _ _ HLM.out)
      have HLW := hidden (hdo.inner_left _ _ (show Lim (.ok s) (s.l.length + s.r.length) s.r.length from fun s' e => by injection e with e; subst e; exact ⟨Nat.le_refl _, Nat.le_refl _⟩))
      have HL0 := hidden (HLM.out s rfl)
      obtain ⟨k2, hk⟩ : ∃ k2, k2 = kidO v2 := ⟨_, rfl⟩
      rw [← hk]
      have HK := hidden hk
      clear hdo hgot hk
      go_wp2_with fail
      refine (lay_new 8 [p, k2] 0 ⟨#[]⟩ ta #[.int .i64 p, .int .i64 k2] rfl 2 rfl HS.out.any (fun j hj => by
        rcases List.mem_cons.1 hj with rfl | hj
        · exact HKI.out.grow HT.out.grow
        · rw [List.mem_singleton.1 hj, HK.out]; exact HT.out.kidIn) (HLV.out.self.mono (by omega) (by omega)) (by simp)).mono ?_
      rintro en w5 ⟨u, R5, hdu, hgot, hlu⟩
      obtain rfl := hgot.en
      replace HS := hidden (HS.out.then_ hgot.run)
      have HDU := hidden hdu
      have HT2 := hidden hgot.tell
      have HLU := hidden (hlu _ _ HLV.out)
      have HLU2 := hidden (hlu _ _ HLW.out)
      obtain ⟨k3, hk⟩ : ∃ k3, k3 = kidO u := ⟨_, rfl⟩
      rw [← hk]
      have HK3 := hidden hk
      clear hdu hgot hlu hk
      go_wp2_with fail
      go_roundw
      case rel =>
        refine ⟨toO u, R5, k3, rfl, HS.out, HLU.out.mono (by have := HL0.out; have := HNX.out; omega) (by omega), (HGR.out.trans HT.out.grow).trans HT2.out.grow, by rw [HK3.out]; exact HT2.out.kidIn, by rw [HK3.out]; exact Out.err_kid, fun x hx => HCT.out x ?_⟩
        refine Does.more_next HB.out HDO.out (by rw [← (HTA.out s rfl).2.2.1, ← HK.out]; exact HDU.out) ?_
        rw [← HK3.out]
        exact hx
      case measure =>
        show qlam g L.length w5 < qlam g L.length _
        rw [← HWO.out, HLAM.out]
        have h1 := HNX.out
        have h2 := HS.out.any
        have h3 := HLU2.out
        cases hv : toO u with
        | error f => rw [hv] at h2; rw [QBad.qlam h2]; omega
        | ok s3 => rw [hv] at h2 h3; rw [QGood.qlam h2]; have := (h3 s3 rfl).2; omega
    · replace HS := hidden (HS.out.below hb)
      have HNB := hidden hb2
      clear hb hb2
      go_wp2_with fail
      go_ret
      refine ⟨endO p o1, R1, HCT.out _ (Does.more_end HNB.out), ⟨⟨by rw [toO_end]; exact HS.out.any, HS.out.fr, HS.out.z⟩, by rw [kidO_end HER.out]; rfl, QTell.end_ HKI.out HGR.out⟩⟩
theorem one_words {o : Except Flt PS} {k : Int} (h : OneAt [wFalse, wTrue, wNil, wLen, wNew] o k) : (k = -1 ∧ ∀ s, o = .ok s → s.is wFalse = false ∧ s.is wTrue = false ∧ s.is wNil = false ∧ s.is wLen = false ∧ s.is wNew = false) ∨ (k = 0 ∧ ∃ s, o = .ok s ∧ s.is wFalse = true) ∨ (k = 1 ∧ ∃ s, o = .ok s ∧ s.is wTrue = true) ∨ (k = 2 ∧ ∃ s, o = .ok s ∧ s.is wNil = true) ∨ (k = 3 ∧ ∃ s, o = .ok s ∧ s.is wLen = true) ∨ (k = 4 ∧ ∃ s, o = .ok s ∧ s.is wNew = true) := by
  rcases h with ⟨h1, h2⟩ | ⟨i, hi, h1, s, h3, h4, _⟩
  · exact .inl ⟨h1, fun s hs => ⟨h2 s hs 0 (by decide), h2 s hs 1 (by decide), h2 s hs 2 (by decide), h2 s hs 3 (by decide), h2 s hs 4 (by decide)⟩⟩
  · right
    match i, hi, h1, h4 with
    | 0, _, h1, h4 => exact .inl ⟨h1, s, h3, h4⟩
    | 1, _, h1, h4 => exact .inr (.inl ⟨h1, s, h3, h4⟩)
    | 2, _, h1, h4 => exact .inr (.inr (.inl ⟨h1, s, h3, h4⟩))
    | 3, _, h1, h4 => exact .inr (.inr (.inr (.inl ⟨h1, s, h3, h4⟩)))
    | 4, _, h1, h4 => exact .inr (.inr (.inr (.inr ⟨h1, s, h3, h4⟩)))
theorem qsg_false {t : Tk} (h : sees t wFalse = true) : sg t = 3 := by unfold sg; rw [sees_other h (show _ ≠ lp by decide), sees_other h (show _ ≠ wTrue by decide), h]; rfl
theorem qsg_true {t : Tk} (h : sees t wTrue = true) : sg t = 2 := by unfold sg; rw [sees_other h (show _ ≠ lp by decide), h]; rfl
theorem qsg_nil {t : Tk} (h : sees t wNil = true) : sg t = 4 := by unfold sg; rw [sees_other h (show _ ≠ lp by decide), sees_other h (show _ ≠ wTrue by decide), sees_other h (show _ ≠ wFalse by decide), h]; rfl
theorem qsg_len {t : Tk} (h : sees t wLen = true) : sg t = 5 := by unfold sg; rw [sees_other h (show _ ≠ lp by decide), sees_other h (show _ ≠ wTrue by decide), sees_other h (show _ ≠ wFalse by decide), sees_other h (show _ ≠ wNil by decide), h]; rfl
theorem qsg_new {t : Tk} (h : sees t wNew = true) : sg t = 6 := by unfold sg; rw [sees_other h (show _ ≠ lp by decide), sees_other h (show _ ≠ wTrue by decide), sees_other h (show _ ≠ wFalse by decide), sees_other h (show _ ≠ wNil by decide), sees_other h (show _ ≠ wLen by decide), h]; rfl
theorem sees_kind34 {t : Tk} {a : List UInt8} (h : t.kind ≠ 3) (h' : t.kind ≠ 4) : sees t a = false := by
  unfold sees
  rw [show (t.kind == 3) = false by simpa using h, show (t.kind == 4) = false by simpa using h']
  rfl
theorem qsg_num {t : Tk} (h : t.kind = 2) : sg t = 7 := by
  unfold sg
  have h0 : ∀ a, sees t a = false := fun a => sees_kind34 (by omega) (by omega)
  rw [h0, h0, h0, h0, h0, h0, if_neg (by decide), if_neg (by decide), if_neg (by decide), if_neg (by decide), if_neg (by decide), if_neg (by decide), if_pos h]
theorem qsg_name {t : Tk} (h : t.kind = 1) : sg t = 8 := by
  unfold sg
  have h0 : ∀ a, sees t a = false := fun a => sees_kind34 (by omega) (by omega)
  rw [h0, h0, h0, h0, h0, h0, if_neg (by decide), if_neg (by decide), if_neg (by decide), if_neg (by decide), if_neg (by decide), if_neg (by decide), if_neg (by omega), if_pos h]
theorem Does.single_around {s : PS} {j : Nat} {v u : Out} (hj : j = 5 ∨ j = 6) (h : sg s.tok = j) (h1 : Does (.ok s.next) (fun s n => Go.Proofs.YtagacfcpepoaoaaGreatDoor.rd n (.inner lp rp) d s) v) (h2 : Does (toO v) (fun s1 _ => some (lay (En (aroundK j) [kidO v] 0 ⟨#[]⟩ s.tok.place) s1)) u) : Does (.ok s) (fun s n => Go.Proofs.YtagacfcpepoaoaaGreatDoor.rd n .single d s) u := by
  refine Does.rd (F := fun s' n => Out.go (Go.Proofs.YtagacfcpepoaoaaGreatDoor.rd n (.inner lp rp) d s'.next) fun q s1 => some (lay (En (aroundK j) [hd1 q] 0 ⟨#[]⟩ s.tok.place) s1)) (fun s' hs n => ?_) ?_
  · injection hs with hs
    subst hs
    rw [rd_single, h]
    rcases hj with rfl | rfl <;> rfl
  · exact Does.go (o := .ok s.next) (F := fun s n => Go.Proofs.YtagacfcpepoaoaaGreatDoor.rd n (.inner lp rp) d s) (G := fun q s1 _ => some (lay (En (aroundK j) [q] 0 ⟨#[]⟩ s.tok.place) s1)) h1 h2
set_option maxRecDepth 100000 in
set_option maxHeartbeats 20000000 in
theorem qfirst_of {M : Nat} (hE : ∀ m, m < M → QExprC B g L m) (H : QAny B g L w R d o) (hd : ∀ s, o = .ok s → d ≤ 200) (hl : Lim o L.length M) : Calls Tryz.prog 109 #[.pointer (some ⟨g, 0, none⟩)] w (QDone B g L w R d o (fun s n => rd n .single d s)) := by
  have HQ := hidden (QRun.start H)
  have HE := hidden hE
  have HDD := hidden hd
  have HL := hidden hl
  obtain ⟨tk, tn, ta, tx, hta, hcall⟩ := q_now' H
  have HTA := hidden hta
  have HC := hidden hcall
  clear H hE hd hl hta hcall
  go_enter Tryz.func109, Tryz.ntmps109
  rw [veil 2, veil 6, veil 8, veil 9, veil 11, veil 12, veil 13, veil 14, veil 16, veil 19, veil 20, veil 22, veil 24]
  go_wp2_with fail
  refine HC.out.mono ?_
  rintro en w1 ⟨rfl, hb⟩
  have HS := hidden ((HQ.out.below hb).tok (.int .i64 (tk : Int)) (.string tx) (.int .i64 (tn : Int)) (.int .i64 (ta : Int)))
  clear hb HC HQ
  go_wp2_with fail
  obtain ⟨W0, hW0⟩ : ∃ W0, W0 = w1.alloc (.cells #[.int .i64 (tk : Int), .string tx, .int .i64 (tn : Int), .int .i64 (ta : Int)] 49) := ⟨_, rfl⟩
  obtain ⟨G, hG⟩ : ∃ G, G = w1.heap.size := ⟨_, rfl⟩
  rw [← hW0, ← hG] at HS ⊢
  clear hW0 hG
  refine wp_veil ?_
  cases o with
  | error f =>
    obtain ⟨e, c5, he⟩ := q_err5 HS.out.any
    have hen : (e != 0) = true := by simpa using he
    clear he
    go_wp2_with fail
    go_ret
    exact ⟨.error f, _, rfl, ⟨⟨HS.out.any, HS.out.fr, HS.out.z⟩, rfl, QTell.err⟩⟩
  | ok s =>
    have c5 := q_ok5 HS.out.any
    have HDS : Hid (d ≤ 200) := HDD.out s rfl
    obtain ⟨rfl, rfl, rfl, rfl⟩ := HTA.out s rfl
    clear HTA
    obtain ⟨tk, htk⟩ : ∃ tk, tk = s.tok.kind := ⟨_, rfl⟩
    obtain ⟨tx, htx⟩ : ∃ tx : ByteArray, tx = ⟨s.tok.text.toArray⟩ := ⟨_, rfl⟩
    obtain ⟨tn, htn⟩ : ∃ tn, tn = s.tok.n := ⟨_, rfl⟩
    obtain ⟨ta, hta⟩ : ∃ ta, ta = s.tok.place := ⟨_, rfl⟩
    rw [← htk, ← htx, ← htn, ← hta] at HS
    have HTK := hidden htk
    have HTX := hidden htx
    have HTN := hidden htn
    have HTA := hidden hta
    have HL0 := hidden (HL.out s rfl)
    go_wp2_with fail
    rw [← htk, ← htx, ← htn, ← hta]
    clear htx htn hta htk
    refine (q_sees lp HS.out.any).mono ?_
    rintro en w2 ⟨c, rfl, hb, hc⟩
    replace HS := hidden (HS.out.below hb)
    clear hb c5
    rcases hc with ⟨rfl, s', hs, hb⟩ | ⟨rfl, hb⟩
    · injection hs with hs
      subst hs
      have HB := hidden hb
      clear hb
      go_wp2_with fail
      refine (qround_of HE.out HS.out.any (fun _ _ => HDS.out) HL.out).mono ?_
      rintro en w3 ⟨u, R3, hdo, hgot⟩
      obtain rfl := hgot.en
      have HDO := hidden hdo
      have HG := hidden hgot
      clear hdo hgot
      go_wp2_with fail
      go_ret
      refine ⟨u, R3, Does.rd (F := fun s n => rd n (.inner lp rp) d s) (fun s' hs n => ?_) HDO.out, HS.out.toQRun.got HG.out⟩
      injection hs with hs
      subst hs
      rw [rd_single, show sg s.tok = 1 from if_pos HB.out]
      rfl
    · have HNB : Hid (s.is lp = false) := hb s rfl
      clear hb
      go_wp2_with fail
      refine wp_veil ?_
      have z0 : w2.cell? ⟨G, 0, none⟩ = some (.int .i64 (tk : Int)) := HS.out.tok.at_ rfl
      by_cases h2 : tk = 2
      · have h2i : ((tk : Int) == 2) = true := by simp [h2]
        have HKZ : Hid (s.tok.kind ≠ 0) := by show _ ≠ _; rw [← HTK.out]; omega
        have HK2 : Hid (s.tok.kind = 2) := by show _ = _; rw [← HTK.out]; exact h2
        clear h2
        obtain ⟨p, c1, f1, hp, hg, hf⟩ := QGood.take (s := s) HS.out.any HKZ.out
        obtain ⟨W, hW⟩ : ∃ W, W = w2.setCell ⟨g, 1, none⟩ (.int .i64 ((p : Int) + 1)) := ⟨_, rfl⟩
        rw [← hW] at hg hf
        replace HS := hidden (HS.out.step (o' := .ok s.next) hg hf (fun _ h => h))
        have HLN : Hid (Lim (.ok s.next) (L.length - 1) (M - 1)) := by
          have h1 := kind_some HKZ.out
          have h2 := HL0.out
          have h3 : s.next.l = s.l := rfl
          intro s' e
          injection e with e
          subst e
          rw [h3]
          exact ⟨by omega, by omega⟩
        have HM1 : Hid (1 ≤ M) := by show 1 ≤ M; have h1 := kind_some HKZ.out; have h2 := HL0.out; omega
        clear hg hf
        go_wp2_with fail
        rw [← hW]
        clear hW c1 f1
        refine wp_veil ?_
        have z0 : W.cell? ⟨G, 0, none⟩ = some (.int .i64 (tk : Int)) := HS.out.tok.at_ rfl
        have z1 : W.cell? ⟨G, 1, none⟩ = some (.string tx) := HS.out.tok.at_ rfl
        have z2 : W.cell? ⟨G, 2, none⟩ = some (.int .i64 (tn : Int)) := HS.out.tok.at_ rfl
        have z3 : W.cell? ⟨G, 3, none⟩ = some (.int .i64 (ta : Int)) := HS.out.tok.at_ rfl
        go_wp2_with fail
        refine (lay_nil 1 (tn : Int) ⟨#[]⟩ ta HS.out.any (HLN.out.self.mono (by omega) (by omega))).mono ?_
        rintro en w9 ⟨u, R9, hdu, hgot, _⟩
        obtain rfl := hgot.en
        have HDU := hidden (Ev.const_inj hdu)
        have HG := hidden hgot
        clear hdu hgot
        go_wp2_with fail
        go_ret
        refine ⟨u, R9, ?_, ⟨HS.out.toQRun.then_ HG.out.run, rfl, HG.out.tell.back Grow.next⟩⟩
        rw [HDU.out, HTA.out, HTN.out]
        exact Does.of_reads (Reads.single_num (qsg_num HK2.out))
      · have h2i : ((tk : Int) == 2) = false := by simp; omega
        have HN2 : Hid (s.tok.kind ≠ 2) := by show _ ≠ _; rw [← HTK.out]; exact h2
        clear h2
        go_wp2_with fail
        refine wp_veil ?_
        by_cases h1 : tk = 1
        · have h1i : ((tk : Int) == 1) = true := by simp [h1]
          have HKZ : Hid (s.tok.kind ≠ 0) := by show _ ≠ _; rw [← HTK.out]; omega
          have HK1 : Hid (s.tok.kind = 1) := by show _ = _; rw [← HTK.out]; exact h1
          clear h1
          obtain ⟨p, c1, f1, hp, hg, hf⟩ := QGood.take (s := s) HS.out.any HKZ.out
          obtain ⟨W, hW⟩ : ∃ W, W = w2.setCell ⟨g, 1, none⟩ (.int .i64 ((p : Int) + 1)) := ⟨_, rfl⟩
          rw [← hW] at hg hf
          replace HS := hidden (HS.out.step (o' := .ok s.next) hg hf (fun _ h => h))
          have HLN : Hid (Lim (.ok s.next) (L.length - 1) (M - 1)) := by
            have h1 := kind_some HKZ.out
            have h2 := HL0.out
            have h3 : s.next.l = s.l := rfl
            intro s' e
            injection e with e
            subst e
            rw [h3]
            exact ⟨by omega, by omega⟩
          have HM1 : Hid (1 ≤ M) := by show 1 ≤ M; have h1 := kind_some HKZ.out; have h2 := HL0.out; omega
          clear hg hf
          go_wp2_with fail
          rw [← hW]
          clear hW c1 f1
          refine wp_veil ?_
          have z0 : W.cell? ⟨G, 0, none⟩ = some (.int .i64 (tk : Int)) := HS.out.tok.at_ rfl
          have z1 : W.cell? ⟨G, 1, none⟩ = some (.string tx) := HS.out.tok.at_ rfl
          have z2 : W.cell? ⟨G, 2, none⟩ = some (.int .i64 (tn : Int)) := HS.out.tok.at_ rfl
          have z3 : W.cell? ⟨G, 3, none⟩ = some (.int .i64 (ta : Int)) := HS.out.tok.at_ rfl
          go_wp2_with fail
          refine (q_sees lp HS.out.any).mono ?_
          rintro en w4 ⟨c, rfl, hb, hc⟩
          replace HS := hidden (HS.out.below hb)
          clear hb z0 z1 z2 z3
          have z1 : w4.cell? ⟨G, 1, none⟩ = some (.string tx) := HS.out.tok.at_ rfl
          have z3 : w4.cell? ⟨G, 3, none⟩ = some (.int .i64 (ta : Int)) := HS.out.tok.at_ rfl
          rcases hc with ⟨rfl, s', hs, hb⟩ | ⟨rfl, hb⟩
          · injection hs with hs
            subst hs
            have HB := hidden hb
            clear hb
            go_wp2_with fail
            refine wp_veil ?_
            go_wp2_with fail
            refine (qcall_of (M := M - 1) tx ta (fun m hm => HE.out m (by omega)) HS.out.any (fun _ _ => HDS.out) (by have := HDS.out; omega) (HLN.out.mono (by omega) (Nat.le_refl _)) (HLN.out.self.mono (by omega) (by omega))).mono ?_
            rintro en w9 ⟨u, R9, hdu, hgot⟩
            obtain rfl := hgot.en
            have HDU := hidden hdu
            have HG := hidden hgot
            clear hdu hgot
            go_wp2_with fail
            go_ret
            refine ⟨u, R9, Does.rd (F := fun s' n => rd n (.call ⟨s.tok.text.toArray⟩ s.tok.place) d s'.next) (fun s' hs n => ?_) ?_, ⟨HS.out.toQRun.then_ HG.out.run, rfl, HG.out.tell.back Grow.next⟩⟩
            · injection hs with hs
              subst hs
              rw [rd_single, qsg_name HK1.out]
              exact if_pos HB.out
            · have h1 := HDU.out
              rw [HTA.out, HTX.out] at h1
              exact h1
          · have HB : Hid (s.next.is lp = false) := hb _ rfl
            clear hb
            go_wp2_with fail
            refine wp_veil ?_
            go_wp2_with fail
            refine (lay_nil 4 0 tx ta HS.out.any (HLN.out.self.mono (by omega) (by omega))).mono ?_
            rintro en w9 ⟨u, R9, hdu, hgot, _⟩
            obtain rfl := hgot.en
            have HDU := hidden (Ev.const_inj hdu)
            have HG := hidden hgot
            clear hdu hgot
            go_wp2_with fail
            go_ret
            refine ⟨u, R9, ?_, ⟨HS.out.toQRun.then_ HG.out.run, rfl, HG.out.tell.back Grow.next⟩⟩
            rw [HDU.out, HTA.out, HTX.out]
            exact Does.of_reads (Reads.single_var (qsg_name HK1.out) HB.out)
        · have h1i : ((tk : Int) == 1) = false := by simp; omega
          have HN1 : Hid (s.tok.kind ≠ 1) := by show _ ≠ _; rw [← HTK.out]; exact h1
          clear h1
          go_wp2_with fail
          refine wp_veil ?_
          go_wp2_with fail
          obtain ⟨W1, hW1⟩ : ∃ W1, W1 = w2.alloc (.cells #[.string ⟨#[102, 97, 108, 115, 101]⟩, .string ⟨#[116, 114, 117, 101]⟩, .string ⟨#[110, 105, 108]⟩, .string ⟨#[108, 101, 110]⟩, .string ⟨#[110, 101, 119]⟩] 9) := ⟨_, rfl⟩
          obtain ⟨b1, hb1⟩ : ∃ b1, b1 = w2.heap.size := ⟨_, rfl⟩
          have HBK : Hid (Held W1 b1 9 (strsOf [wFalse, wTrue, wNil, wLen, wNew])) := by rw [hW1, hb1]; exact Held.new _ _ _
          replace HS := hidden (HS.out.below (show Below w2.heap.size w2 W1 by rw [hW1]; exact (Below.refl _ _).alloc (Nat.le_refl _) _))
          rw [← hW1, ← hb1]
          clear hW1 hb1 z0
          refine (q_one [wFalse, wTrue, wNil, wLen, wNew] b1 5 rfl HBK.out (by decide) HS.out.any).mono ?_
          rintro en w3 ⟨k, rfl, hb, hk⟩
          replace HS := hidden (HS.out.below hb)
          clear hb
          have z3 : w3.cell? ⟨G, 3, none⟩ = some (.int .i64 (ta : Int)) := HS.out.tok.at_ rfl
          rcases one_words hk with ⟨rfl, hno⟩ | ⟨rfl, s', hs, hb⟩ | ⟨rfl, s', hs, hb⟩ | ⟨rfl, s', hs, hb⟩ | ⟨rfl, s', hs, hb⟩ | ⟨rfl, s', hs, hb⟩
          · have HNO := hidden (hno s rfl)
            clear hno hk
            go_wp2_with fail
            refine wp_veil ?_
            go_wp2_with fail
            refine (q_fail 8 ta (by decide) HS.out.any).mono ?_
            rintro en w9 ⟨⟨x9, rfl⟩, ha, hf⟩
            have HG := hidden (HS.out.toQRun.step ha hf (fun _ h => h))
            clear ha hf
            go_wp2_with fail
            go_ret
            refine ⟨.error (8, ta), _, ?_, ⟨⟨HG.out.any, HG.out.fr, HG.out.z⟩, rfl, QTell.err⟩⟩
            rw [HTA.out]
            refine Does.of_reads (Reads.single_no ?_)
            obtain ⟨h1, h2, h3, h4, h5⟩ := HNO.out
            have h0 := HNB.out
            unfold PS.is at h0 h1 h2 h3 h4 h5
            unfold sg
            rw [h0, h1, h2, h3, h4, h5, if_neg (by decide), if_neg (by decide), if_neg (by decide), if_neg (by decide), if_neg (by decide), if_neg (by decide), if_neg HN2.out, if_neg HN1.out]
          · injection hs with hs
            subst hs
            have HB := hidden hb
            have HKZ : Hid (s.tok.kind ≠ 0) := sees_nz hb
            clear hb hk z3
            obtain ⟨p, c1, f1, hp, hg, hf⟩ := QGood.take (s := s) HS.out.any HKZ.out
            obtain ⟨W, hW⟩ : ∃ W, W = w3.setCell ⟨g, 1, none⟩ (.int .i64 ((p : Int) + 1)) := ⟨_, rfl⟩
            rw [← hW] at hg hf
            replace HS := hidden (HS.out.step (o' := .ok s.next) hg hf (fun _ h => h))
            have HLN : Hid (Lim (.ok s.next) (L.length - 1) (M - 1)) := by
              have h1 := kind_some HKZ.out
              have h2 := HL0.out
              have h3 : s.next.l = s.l := rfl
              intro s' e
              injection e with e
              subst e
              rw [h3]
              exact ⟨by omega, by omega⟩
            have HM1 : Hid (1 ≤ M) := by show 1 ≤ M; have h1 := kind_some HKZ.out; have h2 := HL0.out; omega
            clear hg hf
            go_wp2_with fail
            rw [← hW]
            clear hW c1 f1
            have z0 : W.cell? ⟨G, 0, none⟩ = some (.int .i64 (tk : Int)) := HS.out.tok.at_ rfl
            have z1 : W.cell? ⟨G, 1, none⟩ = some (.string tx) := HS.out.tok.at_ rfl
            have z2 : W.cell? ⟨G, 2, none⟩ = some (.int .i64 (tn : Int)) := HS.out.tok.at_ rfl
            have z3 : W.cell? ⟨G, 3, none⟩ = some (.int .i64 (ta : Int)) := HS.out.tok.at_ rfl
            refine wp_veil ?_
            go_wp2_with fail
            refine wp_veil ?_
            go_wp2_with fail
            refine (lay_nil 2 0 ⟨#[]⟩ ta HS.out.any (HLN.out.self.mono (by omega) (by omega))).mono ?_
            rintro en w9 ⟨u, R9, hdu, hgot, _⟩
            obtain rfl := hgot.en
            have HDU := hidden (Ev.const_inj hdu)
            have HG := hidden hgot
            clear hdu hgot
            go_wp2_with fail
            go_ret
            refine ⟨u, R9, ?_, ⟨HS.out.toQRun.then_ HG.out.run, rfl, HG.out.tell.back Grow.next⟩⟩
            rw [HDU.out, HTA.out]
            exact Does.of_reads (Reads.single_false (qsg_false HB.out))
          · injection hs with hs
            subst hs
            have HB := hidden hb
            have HKZ : Hid (s.tok.kind ≠ 0) := sees_nz hb
            clear hb hk z3
            obtain ⟨p, c1, f1, hp, hg, hf⟩ := QGood.take (s := s) HS.out.any HKZ.out
            obtain ⟨W, hW⟩ : ∃ W, W = w3.setCell ⟨g, 1, none⟩ (.int .i64 ((p : Int) + 1)) := ⟨_, rfl⟩
            rw [← hW] at hg hf
            replace HS := hidden (HS.out.step (o' := .ok s.next) hg hf (fun _ h => h))
            have HLN : Hid (Lim (.ok s.next) (L.length - 1) (M - 1)) := by
              have h1 := kind_some HKZ.out
              have h2 := HL0.out
              have h3 : s.next.l = s.l := rfl
              intro s' e
              injection e with e
              subst e
              rw [h3]
              exact ⟨by omega, by omega⟩
            have HM1 : Hid (1 ≤ M) := by show 1 ≤ M; have h1 := kind_some HKZ.out; have h2 := HL0.out; omega
            clear hg hf
            go_wp2_with fail
            rw [← hW]
            clear hW c1 f1
            have z0 : W.cell? ⟨G, 0, none⟩ = some (.int .i64 (tk : Int)) := HS.out.tok.at_ rfl
            have z1 : W.cell? ⟨G, 1, none⟩ = some (.string tx) := HS.out.tok.at_ rfl
            have z2 : W.cell? ⟨G, 2, none⟩ = some (.int .i64 (tn : Int)) := HS.out.tok.at_ rfl
            have z3 : W.cell? ⟨G, 3, none⟩ = some (.int .i64 (ta : Int)) := HS.out.tok.at_ rfl
            refine wp_veil ?_
            go_wp2_with fail
            refine wp_veil ?_
            go_wp2_with fail
            refine (lay_nil 2 1 ⟨#[]⟩ ta HS.out.any (HLN.out.self.mono (by omega) (by omega))).mono ?_
            rintro en w9 ⟨u, R9, hdu, hgot, _⟩
            obtain rfl := hgot.en
            have HDU := hidden (Ev.const_inj hdu)
            have HG := hidden hgot
            clear hdu hgot
            go_wp2_with fail
            go_ret
            refine ⟨u, R9, ?_, ⟨HS.out.toQRun.then_ HG.out.run, rfl, HG.out.tell.back Grow.next⟩⟩
            rw [HDU.out, HTA.out]
            exact Does.of_reads (Reads.single_true (qsg_true HB.out))
          · injection hs with hs
            subst hs
            have HB := hidden hb
            have HKZ : Hid (s.tok.kind ≠ 0) := sees_nz hb
            clear hb hk z3
            obtain ⟨p, c1, f1, hp, hg, hf⟩ := QGood.take (s := s) HS.out.any HKZ.out
            obtain ⟨W, hW⟩ : ∃ W, W = w3.setCell ⟨g, 1, none⟩ (.int .i64 ((p : Int) + 1)) := ⟨_, rfl⟩
            rw [← hW] at hg hf
            replace HS := hidden (HS.out.step (o' := .ok s.next) hg hf (fun _ h => h))
            have HLN : Hid (Lim (.ok s.next) (L.length - 1) (M - 1)) := by
              have h1 := kind_some HKZ.out
              have h2 := HL0.out
              have h3 : s.next.l = s.l := rfl
              intro s' e
              injection e with e
              subst e
              rw [h3]
              exact ⟨by omega, by omega⟩
            have HM1 : Hid (1 ≤ M) := by show 1 ≤ M; have h1 := kind_some HKZ.out; have h2 := HL0.out; omega
            clear hg hf
            go_wp2_with fail
            rw [← hW]
            clear hW c1 f1
            have z0 : W.cell? ⟨G, 0, none⟩ = some (.int .i64 (tk : Int)) := HS.out.tok.at_ rfl
            have z1 : W.cell? ⟨G, 1, none⟩ = some (.string tx) := HS.out.tok.at_ rfl
            have z2 : W.cell? ⟨G, 2, none⟩ = some (.int .i64 (tn : Int)) := HS.out.tok.at_ rfl
            have z3 : W.cell? ⟨G, 3, none⟩ = some (.int .i64 (ta : Int)) := HS.out.tok.at_ rfl
            refine wp_veil ?_
            go_wp2_with fail
            refine wp_veil ?_
            go_wp2_with fail
            refine (lay_nil 3 0 ⟨#[]⟩ ta HS.out.any (HLN.out.self.mono (by omega) (by omega))).mono ?_
            rintro en w9 ⟨u, R9, hdu, hgot, _⟩
            obtain rfl := hgot.en
            have HDU := hidden (Ev.const_inj hdu)
            have HG := hidden hgot
            clear hdu hgot
            go_wp2_with fail
            go_ret
            refine ⟨u, R9, ?_, ⟨HS.out.toQRun.then_ HG.out.run, rfl, HG.out.tell.back Grow.next⟩⟩
            rw [HDU.out, HTA.out]
            exact Does.of_reads (Reads.single_nil (qsg_nil HB.out))
          · injection hs with hs
            subst hs
            have HB := hidden hb
            have HKZ : Hid (s.tok.kind ≠ 0) := sees_nz hb
            clear hb hk z3
            obtain ⟨p, c1, f1, hp, hg, hf⟩ := QGood.take (s := s) HS.out.any HKZ.out
            obtain ⟨W, hW⟩ : ∃ W, W = w3.setCell ⟨g, 1, none⟩ (.int .i64 ((p : Int) + 1)) := ⟨_, rfl⟩
            rw [← hW] at hg hf
            replace HS := hidden (HS.out.step (o' := .ok s.next) hg hf (fun _ h => h))
            have HLN : Hid (Lim (.ok s.next) (L.length - 1) (M - 1)) := by
              have h1 := kind_some HKZ.out
              have h2 := HL0.out
              have h3 : s.next.l = s.l := rfl
              intro s' e
              injection e with e
              subst e
              rw [h3]
              exact ⟨by omega, by omega⟩
            have HM1 : Hid (1 ≤ M) := by show 1 ≤ M; have h1 := kind_some HKZ.out; have h2 := HL0.out; omega
            clear hg hf
            go_wp2_with fail
            rw [← hW]
            clear hW c1 f1
            have z0 : W.cell? ⟨G, 0, none⟩ = some (.int .i64 (tk : Int)) := HS.out.tok.at_ rfl
            have z1 : W.cell? ⟨G, 1, none⟩ = some (.string tx) := HS.out.tok.at_ rfl
            have z2 : W.cell? ⟨G, 2, none⟩ = some (.int .i64 (tn : Int)) := HS.out.tok.at_ rfl
            have z3 : W.cell? ⟨G, 3, none⟩ = some (.int .i64 (ta : Int)) := HS.out.tok.at_ rfl
            refine wp_veil ?_
            go_wp2_with fail
            refine (qround_of (M := M - 1) (fun m hm => HE.out m (by omega)) HS.out.any (fun _ _ => HDS.out) (HLN.out.mono (by omega) (Nat.le_refl _))).mono ?_
            rintro en w8 ⟨v, R8, hdo, hgot⟩
            obtain rfl := hgot.en
            replace HS := hidden (HS.out.then_ hgot.run)
            have HDO := hidden hdo
            have HT := hidden hgot.tell
            have HLV := hidden (Does.left_rd hdo _ _ HLN.out)
            obtain ⟨k, hk⟩ : ∃ k, k = kidO v := ⟨_, rfl⟩
            rw [← hk]
            have HK := hidden hk
            clear hdo hgot hk z0 z1 z2 z3
            have z3 : (w8.alloc (.cells #[.int .i64 k] 3)).cell? ⟨G, 3, none⟩ = some (.int .i64 (ta : Int)) := (HS.out.below ((Below.refl _ _).alloc (Nat.le_refl _) _)).tok.at_ rfl
            go_wp2_with fail
            refine wp_veil ?_
            go_wp2_with fail
            refine (lay_new 9 [k] 0 ⟨#[]⟩ ta #[.int .i64 k] rfl 1 rfl HS.out.any (fun j hj => by rw [List.mem_singleton.1 hj, HK.out]; exact HT.out.kidIn) (HLV.out.self.mono (by omega) (by omega)) (by simp)).mono ?_
            rintro en w9 ⟨u, R9, hdu, hgot, _⟩
            obtain rfl := hgot.en
            have HDU := hidden hdu
            have HG := hidden hgot
            clear hdu hgot
            go_wp2_with fail
            go_ret
            refine ⟨u, R9, Does.single_around (j := 5) (by decide) (qsg_len HB.out) HDO.out ?_, ⟨HS.out.toQRun.then_ HG.out.run, rfl, HG.out.tell.back (Grow.next.trans HT.out.grow)⟩⟩
            rw [← HTA.out, ← HK.out]
            exact HDU.out
          · injection hs with hs
            subst hs
            have HB := hidden hb
            have HKZ : Hid (s.tok.kind ≠ 0) := sees_nz hb
            clear hb hk z3
            obtain ⟨p, c1, f1, hp, hg, hf⟩ := QGood.take (s := s) HS.out.any HKZ.out
            obtain ⟨W, hW⟩ : ∃ W, W = w3.setCell ⟨g, 1, none⟩ (.int .i64 ((p : Int) + 1)) := ⟨_, rfl⟩
            rw [← hW] at hg hf
            replace HS := hidden (HS.out.step (o' := .ok s.next) hg hf (fun _ h => h))
            have HLN : Hid (Lim (.ok s.next) (L.length - 1) (M - 1)) := by
              have h1 := kind_some HKZ.out
              have h2 := HL0.out
              have h3 : s.next.l = s.l := rfl
              intro s' e
              injection e with e
              subst e
              rw [h3]
              exact ⟨by omega, by omega⟩
            have HM1 : Hid (1 ≤ M) := by show 1 ≤ M; have h1 := kind_some HKZ.out; have h2 := HL0.out; omega
            clear hg hf
            go_wp2_with fail
            rw [← hW]
            clear hW c1 f1
            have z0 : W.cell? ⟨G, 0, none⟩ = some (.int .i64 (tk : Int)) := HS.out.tok.at_ rfl
            have z1 : W.cell? ⟨G, 1, none⟩ = some (.string tx) := HS.out.tok.at_ rfl
            have z2 : W.cell? ⟨G, 2, none⟩ = some (.int .i64 (tn : Int)) := HS.out.tok.at_ rfl
            have z3 : W.cell? ⟨G, 3, none⟩ = some (.int .i64 (ta : Int)) := HS.out.tok.at_ rfl
            refine wp_veil ?_
            go_wp2_with fail
            refine (qround_of (M := M - 1) (fun m hm => HE.out m (by omega)) HS.out.any (fun _ _ => HDS.out) (HLN.out.mono (by omega) (Nat.le_refl _))).mono ?_
            rintro en w8 ⟨v, R8, hdo, hgot⟩
            obtain rfl := hgot.en
            replace HS := hidden (HS.out.then_ hgot.run)
            have HDO := hidden hdo
            have HT := hidden hgot.tell
            have HLV := hidden (Does.left_rd hdo _ _ HLN.out)
            obtain ⟨k, hk⟩ : ∃ k, k = kidO v := ⟨_, rfl⟩
            rw [← hk]
            have HK := hidden hk
            clear hdo hgot hk z0 z1 z2 z3
            have z3 : (w8.alloc (.cells #[.int .i64 k] 3)).cell? ⟨G, 3, none⟩ = some (.int .i64 (ta : Int)) := (HS.out.below ((Below.refl _ _).alloc (Nat.le_refl _) _)).tok.at_ rfl
            go_wp2_with fail
            refine wp_veil ?_
            go_wp2_with fail
            refine (lay_new 10 [k] 0 ⟨#[]⟩ ta #[.int .i64 k] rfl 1 rfl HS.out.any (fun j hj => by rw [List.mem_singleton.1 hj, HK.out]; exact HT.out.kidIn) (HLV.out.self.mono (by omega) (by omega)) (by simp)).mono ?_
            rintro en w9 ⟨u, R9, hdu, hgot, _⟩
            obtain rfl := hgot.en
            have HDU := hidden hdu
            have HG := hidden hgot
            clear hdu hgot
            go_wp2_with fail
            go_ret
            refine ⟨u, R9, Does.single_around (j := 6) (by decide) (qsg_new HB.out) HDO.out ?_, ⟨HS.out.toQRun.then_ HG.out.run, rfl, HG.out.tell.back (Grow.next.trans HT.out.grow)⟩⟩
            rw [← HTA.out, ← HK.out]
            exact HDU.out
end Go.Proofs.YtagacfcpepoaoaaGreatDoor
