/- QuotePar, QuoteProg, in one text. -/
import Derived.Test.YtagacfcpepoaoaaGreatDoorQBlock
import Derived.Test.YtagacfcpepoaoaaGreatDoorParsePar
import Derived.Test.YtagacfcpepoaoaaGreatDoorMUse
namespace Go.Proofs.YtagacfcpepoaoaaGreatDoor
open Go.RowKit
set_option linter.unusedVariables false

variable {B g M : Nat} {L : List Tk} {w0 w w' : World} {R0 R R' : Bx} {d d' : Nat} {o o' o1 : Except Flt PS} {acc : List Int}
def parF (d : Nat) : PS → Nat → Option Out := fun s n => need lp s fun s2 => if s2.is rp then some (.ok ([], s2.next)) else prd n (.params []) d s2
def rpF (acc : List Int) : PS → Nat → Option Out := fun s _ => need rp s fun s4 => some (.ok (acc, s4))
/-- the parameters so far -/
def QPar (B g : Nat) (L : List Tk) (w0 : World) (R0 : Bx) (d : Nat) (o : Except Flt PS) (t3 t4 : Value) (wr : World) : Prop :=
  ∃ (m : Bool) (o2 : Except Flt PS) (R2 : Bx) (acc : List Int), t4 = .bool m ∧ QPre B g L w0 R0 d wr R2 o2 t3 acc ∧ Lim o2 L.length L.length ∧ Grow o o2 ∧ acc.length ≤ 9 ∧
    (((m = false ∨ ∃ f, o2 = .error f) ∧ ∀ u, Does o2 (rpF acc) u → Does o (parF d) u) ∨
     (∃ s, o2 = .ok s ∧ m = true ∧ acc.length ≤ 8 ∧ ∀ u, Does (.ok s) (fun s n => prd n (.params acc) d s) u → Does o (parF d) u))
def QPared (B g : Nat) (L : List Tk) (w : World) (R : Bx) (d : Nat) (o : Except Flt PS) (en : Ending) (w' : World) : Prop :=
  ∃ (v : Out) (R' : Bx) (x : Value) (acc : List Int), en = .returned x ∧ Does o (parF d) v ∧ QPre B g L w R d w' R' (toO v) x acc ∧ acc.length ≤ 9 ∧ Grow o (toO v) ∧ (∀ p s, v = .ok (p, s) → acc = p) ∧ Lim (toO v) L.length L.length
theorem Does.rpF_end : Does o (rpF acc) (endL acc (needO rp o)) := Does.need_endL
theorem rpF_yes {s : PS} {u : Out} (hb : s.is rp = true) (h : Does (.ok s) (rpF acc) u) : u = .ok (acc, s.next) := by
  refine Ev.const_inj (Ev.congr (fun n => ?_) h)
  unfold rpF Go.Proofs.YtagacfcpepoaoaaGreatDoor.need
  rw [if_pos hb]
set_option maxRecDepth 100000 in
set_option maxHeartbeats 20000000 in
theorem q_params (H : QAny B g L w R d o) (hl : Lim o L.length L.length) : Calls Tryz.prog 20 #[.pointer (some ⟨g, 0, none⟩)] w (QPared B g L w R d o) := by
  have HS := hidden ((QRun.start H).pre H)
  have HL := hidden hl
  have HBO : Hid (B ≤ w.heap.size) := H.old
  have hfd := field_at
  clear H hl
  go_enter Tryz.func20, Tryz.ntmps20
  go_wp2_with fail
  refine (q_must lp HS.out.any).mono ?_
  rintro en w2 ⟨⟨x2, rfl⟩, ha, hf⟩
  replace HS := hidden (HS.out.step ha hf (fun _ h => h) (Grow.need _))
  clear ha hf
  obtain ⟨o1, ho1⟩ : ∃ o1, o1 = needO lp o := ⟨_, rfl⟩
  rw [← ho1] at HS
  have HO1 := hidden ho1
  have HL1 : Hid (Lim o1 L.length L.length) := by rw [ho1]; exact Lim.need_le HL.out
  have HG1 : Hid (Grow o o1) := by rw [ho1]; exact Grow.need _
  clear ho1
  go_wp2_with fail
  refine (q_sees rp HS.out.any).mono ?_
  rintro en w3 ⟨c, rfl, hb, hc⟩
  replace HS := hidden (HS.out.below hb)
  have HQ : Hid (QPar B g L w R d o (.slice none 0 0) (.bool (!c)) w3) := by
    rcases hc with ⟨rfl, s, hs, hr⟩ | ⟨rfl, hr⟩
    · refine ⟨false, o1, _, [], rfl, HS.out, HL1.out, HG1.out, by simp, .inl ⟨.inl rfl, fun u hu => ?_⟩⟩
      refine Does.need (b := lp) ?_
      rw [← HO1.out]
      rw [hs] at hu ⊢
      rw [rpF_yes hr hu]
      exact Ev.const.congr fun n => if_pos hr
    · cases o1 with
      | error f => exact ⟨true, _, _, [], rfl, HS.out, HL1.out, HG1.out, by simp, .inl ⟨.inr ⟨f, rfl⟩, fun u hu => by refine Does.need (b := lp) ?_; rw [← HO1.out]; exact hu⟩⟩
      | ok s =>
        refine ⟨true, _, _, [], rfl, HS.out, HL1.out, HG1.out, by simp, .inr ⟨s, rfl, rfl, by simp, fun u hu => ?_⟩⟩
        refine Does.need (b := lp) ?_
        rw [← HO1.out]
        exact Ev.ite_neg (by rw [hr s rfl]; decide) hu
  clear hb hc HS
  go_wp2_with fail
  go_loopw [3, 4] (fun t3 t4 wr => Hid (QPar B g L w R d o t3 t4 wr)) (fun _ t4 wr => boolN t4 * (1 + qlam g L.length wr))
  case atStart => cases c <;> exact HQ
  case round =>
    obtain ⟨m, o2, R2, acc, rfl, hpre, hlim, hgr, h9, hst⟩ := hrel.out
    obtain ⟨la, lcp, hv⟩ := own_shape5 hpre.now
    obtain ⟨A, hA⟩ : ∃ A, A = acc.length := ⟨_, rfl⟩
    rw [← hA] at hv
    subst hv
    have HAC := hidden hA
    have HS := hidden hpre
    have HLM := hidden hlim
    have HGR := hidden hgr
    have H9 := hidden h9
    clear hrel hpre hlim hgr h9 hA HQ
    obtain ⟨wo, hwo⟩ : ∃ wo, wo = wr := ⟨_, rfl⟩
    have HWO := hidden hwo
    clear hwo
    rcases hst with ⟨hm, hct⟩ | ⟨s, rfl, rfl, h8, hct⟩
    · have HCT := hidden hct
      have HQ2 : ∃ e : Int, wr.cell? ⟨g, 5, none⟩ = some (.int .i64 e) ∧ (m = false ∨ (e == 0) = false) := by
        rcases hm with h | ⟨f, rfl⟩
        · cases o2 with
          | error f => obtain ⟨e, c5, he⟩ := q_err5 HS.out.any; exact ⟨e, c5, .inl h⟩
          | ok s => exact ⟨0, q_ok5 HS.out.any, .inl h⟩
        · obtain ⟨e, c5, he⟩ := q_err5 HS.out.any
          exact ⟨e, c5, .inr (by simpa using he)⟩
      obtain ⟨e, c5, hme⟩ := HQ2
      clear hm hct
      cases m with
      | false =>
        clear hme
        go_wp2_with fail
        refine (q_must rp HS.out.any).mono ?_
        rintro en w4 ⟨⟨x4, rfl⟩, ha, hf⟩
        replace HS := hidden (HS.out.step ha hf (fun _ h => h) (Grow.need _))
        clear ha hf c5
        go_wp2_with fail
        go_ret
        exact ⟨endL acc (needO rp o2), _, _, acc, rfl, HCT.out _ Does.rpF_end, by rw [toO_endL]; exact HS.out, H9.out, by rw [toO_endL]; exact HGR.out.trans (Grow.need _), endL_eq, by rw [toO_endL]; exact Lim.need_le HLM.out⟩
      | true =>
        have hen : (e == 0) = false := by
          rcases hme with h | h
          · cases h
          · exact h
        clear hme
        go_wp2_with fail
        refine (q_must rp HS.out.any).mono ?_
        rintro en w4 ⟨⟨x4, rfl⟩, ha, hf⟩
        replace HS := hidden (HS.out.step ha hf (fun _ h => h) (Grow.need _))
        clear ha hf c5 hen
        go_wp2_with fail
        go_ret
        exact ⟨endL acc (needO rp o2), _, _, acc, rfl, HCT.out _ Does.rpF_end, by rw [toO_endL]; exact HS.out, H9.out, by rw [toO_endL]; exact HGR.out.trans (Grow.need _), endL_eq, by rw [toO_endL]; exact Lim.need_le HLM.out⟩
    · have HCT := hidden hct
      have H8 : Hid (acc.length ≤ 8) := h8
      have hA8 : A ≤ 8 := by rw [HAC.out]; exact h8
      have c5 := q_ok5 HS.out.any
      have HLAM : Hid (qlam g L.length wo = s.r.length) := by rw [HWO.out]; exact QGood.qlam HS.out.any
      have HSP := hidden (HS.out.any.len s rfl)
      clear hct h8
      go_wp2_with fail
      refine (q_name HS.out.any).mono ?_
      rintro en w4 ⟨ta, rfl, hta, ha, hf⟩
      replace HS := hidden (HS.out.step ha hf (fun _ h => h) Grow.name)
      have HTA := hidden hta
      obtain ⟨X, hX⟩ : ∃ X, X = nmO (Except.ok s) := ⟨_, rfl⟩
      rw [← hX]
      have HX := hidden hX
      clear ha hf hta hX c5
      obtain ⟨o3, ho3⟩ : ∃ o3, o3 = nameO (.ok s) := ⟨_, rfl⟩
      rw [← ho3] at HS
      have HO3 := hidden ho3
      have HL3 : Hid (Lim o3 (L.length - 1) (s.r.length - 1)) := by
        rw [ho3]
        refine name_less (fun s' e => ?_)
        injection e with e
        subst e
        exact ⟨(HLM.out s rfl).1, Nat.le_refl _⟩
      have HG3 : Hid (Grow (.ok s) o3) := by rw [ho3]; exact Grow.name
      clear ho3
      by_cases h8e : A = 8
      · have hge : (8 : Int) ≤ (A : Int) := by omega
        have HA8 : Hid (acc.length = 8) := by show _ = _; rw [← HAC.out]; exact h8e
        clear hA8 h8e
        go_wp2_with fail
        refine (q_fail 3 ta (by decide) HS.out.any).mono ?_
        rintro en w5 ⟨⟨x5, rfl⟩, ha, hf⟩
        replace HS := hidden (HS.out.step ha hf (fun _ h => h) (Grow.fail _ _))
        clear ha hf
        obtain ⟨f1, hf1⟩ := failO_err 3 ta o3
        rw [hf1] at HS
        have HF1 := hidden hf1
        clear hf1
        go_wp2_with fail
        refine (q_kind HS.out.any).mono ?_
        rintro en w6 ⟨rfl, ha, hf⟩
        replace HS := hidden (HS.out.step ha hf (fun _ h => h) Grow.kind)
        obtain ⟨kd, hkd⟩ : ∃ kd : Nat, kd = kdO (Except.error f1) := ⟨_, rfl⟩
        rw [← hkd]
        clear ha hf hkd
        go_wp2_with fail
        refine (lay_nil 24 (kd : Int) X ta HS.out.any Lim.err).mono ?_
        rintro en w7 ⟨u1, R7, hdu, hgot, _⟩
        obtain rfl := hgot.en
        have hu1 : u1 = .error f1 := hdu
        subst hu1
        have HV := hidden (HS.out.then_ hgot.run hgot.tell.grow)
        obtain ⟨k, hk⟩ : ∃ k, k = kidO (Except.error f1) := ⟨_, rfl⟩
        rw [← hk]
        have HTT := hidden hgot.tell
        have HK := hidden hk
        clear hdu hgot hk
        go_wp2_with (at_builtin; refine wpList_kid rfl (.tmp 35) (.tmp 42) rfl w.heap.size w7 (.slice la A lcp) acc k rfl rfl HV.out.now HV.out.fr.size (by have := H8.out; omega) ?_; intro v3 w8 h3 hg3 hw3; obtain ⟨va, vc3, hv3⟩ := own_shape5 h3; obtain ⟨R3, hr3⟩ := HV.out.push (k := k) (by rw [HK.out]; exact HTT.out.kidIn) h3 hg3 hw3; have HR3 := hidden hr3; clear hr3 h3 hg3 hw3; rw [List.length_append, List.length_singleton] at hv3; subst hv3)
        refine (q_eats comma HR3.out.any).mono ?_
        rintro en w9 ⟨c, oe, rfl, ha, hf, hc⟩
        rcases hc with ⟨rfl, s', hs, hb, ho⟩ | ⟨rfl, ho, hb⟩
        · cases hs
        · subst ho
          replace HR3 := hidden (HR3.out.step ha hf (fun _ h => h) (Grow.refl _))
          clear ha hf hb
          go_wp2_with fail
          go_roundw
          case rel =>
            refine ⟨false, _, _, acc ++ [k], rfl, HR3.out, Lim.err, Grow.err, by rw [List.length_append, List.length_singleton]; have := H8.out; omega, .inl ⟨.inl rfl, fun u hu => HCT.out u ?_⟩⟩
            rw [show u = .error f1 from hu]
            refine Does.params (Does.name (G := fun nm at_ s1 n => parTail d acc nm at_ s1 n) HTA.out ?_)
            rw [← HX.out, ← HO3.out]
            exact tail_long HA8.out HF1.out
          case measure =>
            show boolN (.bool false) * _ < boolN (.bool true) * _
            have h1 : boolN (.bool false) = 0 := rfl
            have h2 : boolN (.bool true) = 1 := rfl
            rw [h1, h2]
            omega
      · have hge : ¬ (8 : Int) ≤ (A : Int) := by omega
        have HA8 : Hid (acc.length ≠ 8) := by show _ ≠ _; rw [← HAC.out]; exact h8e
        clear hA8 h8e
        go_wp2_with fail
        refine (q_kind HS.out.any).mono ?_
        rintro en w6 ⟨rfl, ha, hf⟩
        replace HS := hidden (HS.out.step ha hf (fun _ h => h) Grow.kind)
        obtain ⟨kd, hkd⟩ : ∃ kd : Nat, kd = kdO o3 := ⟨_, rfl⟩
        rw [← hkd]
        have HKD := hidden hkd
        clear ha hf hkd
        have HL5 : Hid (Lim (kindO o3) (L.length - 1) (s.r.length - 1)) := Lim.kind_le HL3.out
        go_wp2_with fail
        refine (lay_nil 24 (kd : Int) X ta HS.out.any (HL5.out.self.mono (by omega) (by omega))).mono ?_
        rintro en w7 ⟨u1, R7, hdu, hgot, hlu⟩
        obtain rfl := hgot.en
        have HDU := hidden hdu
        have HLU := hidden (hlu _ _ HL5.out)
        have HV := hidden (HS.out.then_ hgot.run hgot.tell.grow)
        obtain ⟨k, hk⟩ : ∃ k, k = kidO u1 := ⟨_, rfl⟩
        rw [← hk]
        have HTT := hidden hgot.tell
        have HK := hidden hk
        clear hdu hgot hk hlu
        have HLL := hidden (HLM.out s rfl)
        have HPOS : Hid (∀ s3, toO u1 = .ok s3 → 1 ≤ s.r.length) := fun s3 hs3 => by
          obtain ⟨sa, h1, _⟩ := HTT.out.grow s3 hs3
          cases ho : o3 with
          | error f => rw [ho] at h1; cases h1
          | ok sb =>
            have h2 := HO3.out
            rw [ho] at h2
            by_cases hk1 : s.tok.kind = 1
            · have := slack_kind (s := s) (by omega); omega
            · rw [nameO_no hk1] at h2; cases h2
        have HGZ : Hid (Grow o (toO u1)) := ((HGR.out.trans HG3.out).trans Grow.kind).trans HTT.out.grow
        go_wp2_with (at_builtin; refine wpList_kid rfl (.tmp 35) (.tmp 42) rfl w.heap.size w7 (.slice la A lcp) acc k rfl rfl HV.out.now HV.out.fr.size (by have := H8.out; omega) ?_; intro v3 w8 h3 hg3 hw3; obtain ⟨va, vc3, hv3⟩ := own_shape5 h3; obtain ⟨R3, hr3⟩ := HV.out.push (k := k) (by rw [HK.out]; exact HTT.out.kidIn) h3 hg3 hw3; have HR3 := hidden hr3; clear hr3 h3 hg3 hw3; rw [List.length_append, List.length_singleton] at hv3; subst hv3)
        refine (q_eats comma HR3.out.any).mono ?_
        rintro en w9 ⟨c, oe, rfl, ha, hf, hc⟩
        have HCO : Hid (∀ u, Does (toO u1) (parEnd d acc k) u → Does o (parF d) u) := fun u hu => HCT.out u (by
          refine Does.params (Does.name (G := fun nm at_ s1 n => parTail d acc nm at_ s1 n) HTA.out ?_)
          rw [← HX.out, ← HO3.out]
          refine tail_of HA8.out H8.out (by rw [← HKD.out]; exact HDU.out) ?_
          rw [← HK.out]
          exact hu)
        rcases hc with ⟨rfl, s', hs, hb, ho⟩ | ⟨rfl, ho, hb⟩
        · subst ho
          have HSS := hidden hs
          have HBB := hidden hb
          have HGE : Hid (Grow (toO u1) (.ok s'.next)) := by rw [hs]; exact Grow.next
          replace HR3 := hidden (HR3.out.step ha hf (fun _ h => h) HGE.out)
          clear ha hf hb hs
          go_wp2_with fail
          go_roundw
          case rel =>
            refine ⟨true, _, _, acc ++ [k], rfl, HR3.out, ?_, HGZ.out.trans HGE.out, by rw [List.length_append, List.length_singleton]; have := H8.out; omega, .inr ⟨s'.next, rfl, rfl, by rw [List.length_append, List.length_singleton]; have := H8.out; have := HA8.out; omega, fun u hu => HCO.out u (end_more HSS.out HBB.out hu)⟩⟩
            have h1 := HLU.out
            rw [HSS.out] at h1
            have h2 := HLL.out
            exact (h1.next_le HBB.out).self.mono (by omega) (by omega)
          case measure =>
            show boolN (.bool true) * (1 + qlam g L.length w9) < boolN (.bool true) * (1 + qlam g L.length _)
            have h2 : boolN (.bool true) = 1 := rfl
            rw [h2, ← HWO.out, HLAM.out, QGood.qlam HR3.out.any]
            have h3 := (HLU.out s' HSS.out).2
            have h4 := is_some HBB.out
            have h5 := HPOS.out s' HSS.out
            omega
        · rw [ho] at ha
          replace HR3 := hidden (HR3.out.step ha hf (fun _ h => h) (Grow.refl _))
          have HBB := hidden hb
          clear ha hf hb ho
          go_wp2_with fail
          go_roundw
          case rel =>
            exact ⟨false, _, _, acc ++ [k], rfl, HR3.out, HLU.out.self.mono (by have := HLL.out; have := HSP.out; omega) (by have := HLL.out; have := HSP.out; omega), HGZ.out, by rw [List.length_append, List.length_singleton]; have := H8.out; omega, .inl ⟨.inl rfl, fun u hu => HCO.out u (end_last HBB.out hu)⟩⟩
          case measure =>
            show boolN (.bool false) * _ < boolN (.bool true) * _
            have h1 : boolN (.bool false) = 0 := rfl
            have h2 : boolN (.bool true) = 1 := rfl
            rw [h1, h2]
            omega
end Go.Proofs.YtagacfcpepoaoaaGreatDoor

namespace Go.Proofs.YtagacfcpepoaoaaGreatDoor
open Go.RowKit
set_option linter.unusedVariables false

variable {B g M : Nat} {L : List Tk} {w0 w w' : World} {R0 R R' : Bx} {d d' : Nat} {o o' o1 : Except Flt PS} {acc : List Int}
theorem go_need {b : List UInt8} {s : PS} {F : PS → Option Out} {G : List Int → PS → Option Out} : Go.Proofs.YtagacfcpepoaoaaGreatDoor.need b s (fun s1 => Out.go (F s1) G) = Out.go (Go.Proofs.YtagacfcpepoaoaaGreatDoor.need b s F) G := by
  unfold Go.Proofs.YtagacfcpepoaoaaGreatDoor.need
  split
  · rfl
  · rfl
theorem Does.qfunc {tb : Nat} {acc1 : List Int} {v1 v2 u : Out} (ht : ∀ s, o = .ok s → tb = s.tok.place) (h1 : Does (nameO o) (parF d) v1) (hq : ∀ p s, v1 = .ok (p, s) → acc1 = p) (h2 : Does (kindO (toO v1)) (fun s n => Go.Proofs.YtagacfcpepoaoaaGreatDoor.prd n .block d s) v2)
    (h3 : Does (toO v2) (fun s _ => some (lay (En 25 (acc1 ++ [kidO v2]) (kdO (toO v1) : Nat) (nmO o) (tb : Int)) s)) u) : Does o (fun s n => Go.Proofs.YtagacfcpepoaoaaGreatDoor.prd n .func d s) u := by
  refine Does.prd (F := fun s n => needName s fun nm at_ s1 => Out.go (parF d s1 n) fun ps s3 => needKind s3 fun k s4 => Out.go (Go.Proofs.YtagacfcpepoaoaaGreatDoor.prd n .block d s4) fun b s5 => some (lay (En 25 (ps ++ [hd1 b]) k nm (at_ : Int)) s5)) (fun s _ n => ?_) ?_
  · rw [Go.Proofs.YtagacfcpepoaoaaGreatDoor.prd]
    congr 1
    funext nm at_ s1
    exact go_need
  · refine Does.name (G := fun nm at_ s1 n => Out.go (parF d s1 n) fun ps s3 => needKind s3 fun k s4 => Out.go (Go.Proofs.YtagacfcpepoaoaaGreatDoor.prd n .block d s4) fun b s5 => some (lay (En 25 (ps ++ [hd1 b]) k nm (at_ : Int)) s5)) ht ?_
    refine Does.go' (G := fun ps s3 n => needKind s3 fun k s4 => Out.go (Go.Proofs.YtagacfcpepoaoaaGreatDoor.prd n .block d s4) fun b s5 => some (lay (En 25 (ps ++ [hd1 b]) k (nmO o) (tb : Int)) s5)) h1 hq ?_
    refine Does.kind (G := fun k s4 n => Out.go (Go.Proofs.YtagacfcpepoaoaaGreatDoor.prd n .block d s4) fun b s5 => some (lay (En 25 (acc1 ++ [hd1 b]) k (nmO o) (tb : Int)) s5)) ?_
    exact Does.go (G := fun b s5 _ => some (lay (En 25 (acc1 ++ [b]) (kdO (toO v1) : Nat) (nmO o) (tb : Int)) s5)) h2 h3
theorem Does.prog_step {s : PS} {v u : Out} (hk : s.tok.kind ≠ 0) (hl : acc.length < 200) (h1 : Does (needO wFn (.ok s)) (fun s n => Go.Proofs.YtagacfcpepoaoaaGreatDoor.prd n .func d s) v) (h2 : Does (toO v) (fun s n => Go.Proofs.YtagacfcpepoaoaaGreatDoor.prd n (.prog (acc ++ [kidO v])) d s) u) : Does (.ok s) (fun s n => Go.Proofs.YtagacfcpepoaoaaGreatDoor.prd n (.prog acc) d s) u := by
  refine Does.prd (F := fun s n => Go.Proofs.YtagacfcpepoaoaaGreatDoor.need wFn s fun s1 => Out.go (Go.Proofs.YtagacfcpepoaoaaGreatDoor.prd n .func d s1) fun q s2 => Go.Proofs.YtagacfcpepoaoaaGreatDoor.prd n (.prog (acc ++ [hd1 q])) d s2) (fun s' hs n => ?_) ?_
  · injection hs with hs
    subst hs
    rw [Go.Proofs.YtagacfcpepoaoaaGreatDoor.prd, if_neg hk]
    congr 1
    funext s1
    exact if_neg (by omega)
  · exact Does.need (b := wFn) (G := fun s1 n => Out.go (Go.Proofs.YtagacfcpepoaoaaGreatDoor.prd n .func d s1) fun q s2 => Go.Proofs.YtagacfcpepoaoaaGreatDoor.prd n (.prog (acc ++ [hd1 q])) d s2) (Does.go (G := fun q s2 n => Go.Proofs.YtagacfcpepoaoaaGreatDoor.prd n (.prog (acc ++ [q])) d s2) h1 h2)
theorem Does.prog_long {s : PS} {f : Flt} (hk : s.tok.kind ≠ 0) (hl : 200 ≤ acc.length) (hf : failO 3 s.tok.place (needO wFn (.ok s)) = .error f) : Does (.ok s) (fun s n => Go.Proofs.YtagacfcpepoaoaaGreatDoor.prd n (.prog acc) d s) (.error f) := by
  cases hb : s.is wFn with
  | true => rw [needO_yes hb] at hf; injection hf with hf; subst hf; exact (PReads.prog_long hb hl).ev
  | false => rw [needO_no hb] at hf; injection hf with hf; subst hf; exact (PReads.prog_no hk hb).ev
theorem Does.prog_end {s : PS} {u : Out} (hk : s.tok.kind = 0) (h : Does (.ok s) (fun s _ => some (lay (En 26 acc 0 ⟨#[]⟩ ((0 : Nat) : Int)) s)) u) : Does (.ok s) (fun s n => Go.Proofs.YtagacfcpepoaoaaGreatDoor.prd n (.prog acc) d s) u := by
  rw [Ev.const_inj h]
  exact (PReads.prog_end hk).ev
/-- the functions so far -/
def QPrg (B g : Nat) (L : List Tk) (w0 : World) (R0 : Bx) (t7 : Value) (wr : World) : Prop :=
  ∃ (o2 : Except Flt PS) (R2 : Bx) (acc : List Int), QPre B g L w0 R0 0 wr R2 o2 t7 acc ∧ Lim o2 L.length L.length ∧ acc.length ≤ 201 ∧ (∀ s, o2 = .ok s → acc.length ≤ 200) ∧
    ∀ u, Does o2 (fun s n => prd n (.prog acc) 0 s) u → Does (.ok ⟨L, [], []⟩) (fun s n => prd n (.prog []) 0 s) u
/-- a reader that was just made -/
theorem q_new {L : List Tk} (tb tc : Nat) (w : World) (B : Nat) (hT : XTabs w) (hB : xTop ≤ B) (hBs : B ≤ w.heap.size) (hL : IsL L) (ho : w.ownsRow B 49 4 (.slice (some ⟨tb, 0, none⟩) L.length tc) L.length (tkCells L)) (htb : B ≤ tb) :
    QAny B w.heap.size L (w.alloc (.cells #[.slice (some ⟨tb, 0, none⟩) L.length tc, .int .i64 0, .int .i64 0, .slice none 0 0, .slice none 0 0, .int .i64 0, .int .i64 0] 47)) ⟨tb, tc, .slice none 0 0, .slice none 0 0, fun _ => False⟩ 0 (.ok ⟨L, [], []⟩) := by
  have hbb : Below w.heap.size w (w.alloc (.cells #[.slice (some ⟨tb, 0, none⟩) L.length tc, .int .i64 0, .int .i64 0, .slice none 0 0, .slice none 0 0, .int .i64 0, .int .i64 0] 47)) := (Below.refl _ _).alloc (Nat.le_refl _) _
  have hlt := (ho.lt tb rfl).2
  refine ⟨0, [], ⟨⟨Held.new w _ _, ?_, ?_, htb, ?_, ⟨rfl, .inl ⟨rfl, rfl⟩⟩, ⟨rfl, .inl ⟨rfl, rfl⟩⟩, (fun x hx => by cases hx), (fun x hx => by cases hx), hBs, hL.fin, hL.many, hT.keep (fun k hk => hbb.block k (by have := hT.size; omega)), hB, (fun k hk => hk.elim)⟩, rfl, hL.some, by simp, (fun x hx => by cases hx)⟩, rfl, rfl⟩
  · intro j u hj
    have h1 := ho.cells (g := tb) rfl j u hj
    rw [add_zero_at] at h1
    have h2 := hbb.cell (p := ⟨tb, j, none⟩) hlt
    rw [Nat.zero_add]
    exact h2.trans h1
  · exact Nat.lt_of_lt_of_le hlt hbb.size
  · rcases ho.2 with ⟨h1, _⟩ | ⟨g', cap, cur, h1, _, h3, _⟩
    · cases h1
    · injection h1 with h1
      injection h1 with h1
      injection h1 with h1
      subst h1
      exact ⟨cur, (0, 0), (hbb.block _ hlt).trans h3⟩
end Go.Proofs.YtagacfcpepoaoaaGreatDoor
