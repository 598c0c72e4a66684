/- The walk through measure's own function, which calls itself. -/
import Derived.Test.YtihcepkdihmjoaaDoorTreeHgt
import Derived.Test.YtihcepkdihmjoaaDoorTreeRefKids
import Derived.Test.YtihcepkdihmjoaaDoorGenVeil
import Derived.StillTailTactics
namespace Go.Proofs.YtihcepkdihmjoaaDoor
open Go.RowKit
set_option linter.unusedVariables false

/-- where measure's own function finds what it has from measure: the row of heights is block g -/
structure Env (w0 w : World) (a : Option Addr) (l : List Nd) (n c g hb lb rb : Nat) : Prop where
  nodes : Nodes w0 a l
  below : Below w0.heap.size w0 w
  old : w0.heap.size ≤ g
  hc : w.cell? ⟨hb, 0, none⟩ = some (.slice (some ⟨g, 0, none⟩) n n)
  lc : w.cell? ⟨lb, 0, none⟩ = some (.slice a n c)
  rc : w.cell? ⟨rb, 0, none⟩ = some (.func (.func 44) #[] #[.pointer (some ⟨hb, 0, none⟩), .pointer (some ⟨lb, 0, none⟩), .pointer (some ⟨rb, 0, none⟩)])
  hn : hb ≠ g
  ln : lb ≠ g
  rn : rb ≠ g
theorem but_cell {g b o : Nat} {w w' : World} (h : But g w w') (hb : b ≠ g) : w'.cell? ⟨b, o, none⟩ = w.cell? ⟨b, o, none⟩ := by
  unfold World.cell?
  rw [h.block b hb]
theorem Env.but {w0 w w' : World} {a : Option Addr} {l : List Nd} {n c g hb lb rb : Nat} (h : Env w0 w a l n c g hb lb rb) (hb' : But g w w') : Env w0 w' a l n c g hb lb rb :=
  ⟨h.nodes, hb'.below h.below h.old, h.old, (but_cell hb' h.hn).trans h.hc, (but_cell hb' h.ln).trans h.lc, (but_cell hb' h.rn).trans h.rc, h.hn, h.ln, h.rn⟩
/-- what it tells, and leaves -/
def Reached (l : List Nd) (g n at_ lv : Nat) (H : Nat → Int) (w : World) (e : Ending) (w' : World) : Prop :=
  ∃ (b : Bool) (H' : Nat → Int), e = .returned (.bool b) ∧ But g w w' ∧ Mine .i64 3 w' g n H' ∧ (b = true ↔ lv + hgt l at_ ≤ 201) ∧
    (b = true → (∀ j, Under l at_ j → H' j = (hgt l j : Int)) ∧ (∀ j, H' j = H j ∨ H' j = (hgt l j : Int)) ∧ ∀ j, at_ < j → H' j = H j)
theorem Reached.no {l : List Nd} {g n at_ lv : Nat} {H H' : Nat → Int} {w w' : World} {e : Ending} (he : e = .returned (.bool false)) (hb : But g w w') (hm : Mine .i64 3 w' g n H') (h : ¬ lv + hgt l at_ ≤ 201) : Reached l g n at_ lv H w e w' :=
  ⟨false, H', he, hb, hm, by simp [h], fun h => by cases h⟩
/-- what is so behind the first j kids -/
structure Sub (l : List Nd) (i j : Nat) (H H' : Nat → Int) : Prop where
  here : H' i = (mx l i j : Int)
  done : ∀ j', j' < j → ∀ q : Nat, (nd l i).kids.getD j' 0 = (q : Int) → ∀ x, Under l q x → H' x = (hgt l x : Int)
  else_ : ∀ x, x ≠ i → H' x = H x ∨ H' x = (hgt l x : Int)
  past : ∀ x, i < x → H' x = H x
theorem Sub.start (l : List Nd) (i : Nat) (H : Nat → Int) : Sub l i 0 H (fun x => if x = i then 1 else H x) :=
  ⟨by rw [if_pos rfl, mx_zero]; rfl, fun j' h => by omega, fun x hx => by rw [if_neg hx]; exact .inl rfl, fun x hx => by rw [if_neg (by omega)]⟩
theorem Sub.next {l : List Nd} {i j q : Nat} {H H' H2 : Nat → Int} (hA : Ahead l) (hi : i < l.length) (hj : j < (nd l i).kids.length) (hq : (nd l i).kids.getD j 0 = (q : Int)) (hqi : q < i) (h : Sub l i j H H')
    (h1 : ∀ x, Under l q x → H2 x = (hgt l x : Int)) (h2 : ∀ x, H2 x = H' x ∨ H2 x = (hgt l x : Int)) (h3 : ∀ x, q < x → H2 x = H' x) : Sub l i (j + 1) H (fun x => if x = i then (max (mx l i j) (1 + hgt l q) : Nat) else H2 x) := by
  have hun : ∀ r, r < i → ∀ x, Under l r x → x ≠ i := by
    intro r hr x hx e
    have := hx.le hA (by omega)
    omega
  refine ⟨by simp only [if_true]; rw [mx_next hj hq], ?_, ?_, ?_⟩
  · intro j' hj' r hr x hx
    obtain ⟨r', hr', hlt, _⟩ := kid_q hA hi (show j' < (nd l i).kids.length by omega)
    have e : r = r' := by rw [hr] at hr'; omega
    subst e
    simp only [if_neg (hun r hlt x hx)]
    rcases Nat.lt_or_ge j' j with g | g
    · have := h.done j' g r hr x hx
      rcases h2 x with e | e
      · rw [e]; exact this
      · exact e
    · obtain rfl : j' = j := by omega
      rw [hr] at hq
      have e : r = q := by omega
      subst e
      exact h1 x hx
  · intro x hx
    simp only [if_neg hx]
    rcases h2 x with e | e
    · rw [e]; exact h.else_ x hx
    · exact .inr e
  · intro x hx
    simp only [if_neg (show ¬ x = i by omega)]
    rw [h3 x (by omega)]
    exact h.past x hx
theorem Sub.at_kid {l : List Nd} {i j q : Nat} {H H2 : Nat → Int} (h1 : ∀ x, Under l q x → H2 x = (hgt l x : Int)) : H2 q = (hgt l q : Int) := h1 q (.refl _)
theorem Reached.yes {l : List Nd} {g n i lv : Nat} {H H' : Nat → Int} {w w' : World} {e : Ending} (hA : Ahead l) (hi : i < l.length) (he : e = .returned (.bool true)) (hb : But g w w') (hm : Mine .i64 3 w' g n H') (h : lv + hgt l i ≤ 201)
    (hs : Sub l i (nd l i).kids.length H H') : Reached l g n i lv H w e w' := by
  refine ⟨true, H', he, hb, hm, by simp [h], fun _ => ⟨?_, ?_, hs.past⟩⟩
  · intro x hx
    cases hx with
    | refl => rw [hs.here, mx_full hA hi]
    | step hk hu =>
      obtain ⟨j, hj, e⟩ := List.mem_iff_getElem.1 hk
      obtain ⟨q, hq, _, _⟩ := kid_q hA hi hj
      rw [List.getD_eq_getElem?_getD, List.getElem?_eq_getElem hj] at hq
      have e3 : _ = (q : Int) := e.symm.trans hq
      rw [e3, Int.toNat_natCast] at hu
      have hq : (nd l i).kids.getD j 0 = (q : Int) := by rw [List.getD_eq_getElem?_getD, List.getElem?_eq_getElem hj]; exact hq
      exact hs.done j hj q hq x hu
  · intro x
    by_cases hx : x = i
    · subst hx
      right
      rw [hs.here, mx_full hA hi]
    · exact hs.else_ x hx
set_option maxRecDepth 100000 in
set_option maxHeartbeats 4000000 in
theorem measure1 (w0 : World) (a : Option Addr) (l : List Nd) (n c g hb lb rb : Nat) (hA : Ahead l) (hn : n = l.length) (hll : n ≤ 1000000000) : ∀ (N at_ : Nat), at_ < N → at_ < l.length → ∀ (lv : Nat) (H : Nat → Int) (w : World), 1 ≤ lv → lv ≤ 201 → Env w0 w a l n c g hb lb rb → Mine .i64 3 w g n H →
    Calls Tryd.prog 44 #[.int .i64 (at_ : Int), .int .i64 (lv : Int), .pointer (some ⟨hb, 0, none⟩), .pointer (some ⟨lb, 0, none⟩), .pointer (some ⟨rb, 0, none⟩)] w (Reached l g n at_ lv H w) := by
  intro N
  induction N with
  | zero => intro at_ h; omega
  | succ N ih =>
    intro i hiN hil lv H w hlv1 hlv2 hE hM
    have HE := hidden hE
    have HM := hidden hM
    have HA := hidden hA
    have HNL := hidden hn
    have IH := hidden ih
    clear hE hM ih
    have HP := hgt_pos HA.out hil
    by_cases hl200 : 200 < lv
    · go_enter Tryd.func44, Tryd.ntmps44
      go_wp2_with fail
      go_ret
      exact Reached.no rfl (But.refl g w) HM.out (by omega)
    · have hil' : (i : Int) < (n : Int) := by omega
      have c1 := HE.out.hc
      have f1 := HM.out.frozen i
      have c5 := HM.out.cell (j := i) (by omega)
      have HIL := hidden hil
      clear hil hn hA
      go_enter Tryd.func44, Tryd.ntmps44
      rw [veil 4]
      go_wp2_with fail
      obtain ⟨w1, hw1⟩ : ∃ w1, w1 = w.setCell ⟨g, i, none⟩ (.int .i64 1) := ⟨_, rfl⟩
      have HBT : Hid (But g w w1) := by rw [hw1]; exact But.setCell g i _ w
      have HM1 : Hid (Mine .i64 3 w1 g n (fun x => if x = i then 1 else H x)) := by rw [hw1]; exact HM.out.set i 1
      have HE1 := hidden (HE.out.but HBT.out)
      rw [← hw1]
      clear hw1 c1 f1 c5
      have c1 := HE1.out.lc
      obtain ⟨nb, no, rfl, hnb, h5⟩ := (HE1.out.nodes.below HE1.out.below).at_ HIL.out
      have hok := HE1.out.nodes.2 i HIL.out
      have hkr := hok.rows
      have hkl := hok.len
      have h51 := h5.2.1
      obtain ⟨ks, hks⟩ : ∃ ks, ks = (nd l i).kids := ⟨_, rfl⟩
      obtain ⟨ka, hka⟩ : ∃ ka, ka = (nd l i).ka := ⟨_, rfl⟩
      obtain ⟨kc, hkc⟩ : ∃ kc, kc = (nd l i).kc := ⟨_, rfl⟩
      obtain ⟨m, hm⟩ : ∃ m, m = ks.length := ⟨_, rfl⟩
      rw [← hks, ← hka, ← hkc, ← hm] at h51
      rw [← hks, ← hka, ← hm] at hkr
      rw [← hks, ← hm] at hkl
      have HKS := hidden hks
      have HMM := hidden hm
      have HKR := hidden hkr
      clear hks hka hkc hm hkr hok h5
      refine wp_veil ?_
      go_wp2_with fail
      go_loopw [21] (fun t wr => ∃ (j : Nat) (H' : Nat → Int), j ≤ m ∧ t = .int .i64 (j : Int) ∧ Hid (But g w wr) ∧ Hid (Mine .i64 3 wr g n H') ∧ Hid (Sub l i j H H') ∧ Hid (lv + mx l i j ≤ 201)) (fun t _ => m - (intOf t).toNat)
      case atStart => exact ⟨0, _, by omega, rfl, HBT, HM1, Sub.start l i H, (by show _ ≤ _; rw [mx_zero]; omega)⟩
      case round =>
        obtain ⟨j, H', hj, rfl, HB, HM, HS, HLE⟩ := hrel
        have HEE := hidden (HE.out.but HB.out)
        by_cases hjm : j < m
        · have hjk : Hid (j < (nd l i).kids.length) := by show j < _; rw [← HKS.out, ← HMM.out]; exact hjm
          obtain ⟨q, hq, hqi, _⟩ := kid_q HA.out HIL.out hjk.out
          obtain ⟨kb, ko, rfl, hkb, hkc⟩ := (HKR.out.below HEE.out.below) (by omega)
          have hc := hkc j hjm
          simp only at hc
          rw [HKS.out, hq] at hc
          have HQ := hidden hq
          have crc := HEE.out.rc
          clear hkc hq
          have HKH : Hid (1 + hgt l q ≤ hgt l i) := kid_hgt HA.out HIL.out hjk.out HQ.out
          go_wp2_with fail
          refine (IH.out q (by omega) (by have := HIL.out; omega) (lv + 1) H' wr (by omega) (by omega) HEE.out HM.out).mono ?_
          rintro e w2 ⟨b, H2, rfl, hb2, hm2, hiff, htrue⟩
          have HB2 := hidden (HB.out.trans hb2)
          have HE2 := hidden (HE.out.but HB2.out)
          have HM2 := hidden hm2
          have HIF := hidden hiff
          have HTR := hidden htrue
          clear hb2 hm2 hiff htrue
          cases b with
          | false =>
            go_wp2_with fail
            go_ret
            exact Reached.no rfl HB2.out HM2.out (by
              have h1 := HKH.out
              have h2 : ¬ lv + 1 + hgt l q ≤ 201 := fun h => by cases HIF.out.2 h
              omega)
          | true =>
            have HLQ : Hid (lv + 1 + hgt l q ≤ 201) := HIF.out.1 rfl
            obtain ⟨h1, h2, h3⟩ := HTR.out rfl
            have HS2 := hidden (HS.out.next HA.out HIL.out hjk.out HQ.out hqi h1 h2 h3)
            have cH := HE2.out.hc
            have ci := HM2.out.cell (j := i) (by omega)
            have cq := HM2.out.cell (j := q) (by omega)
            rw [h3 i hqi, HS.out.here] at ci
            rw [h1 q (.refl _)] at cq
            have fi := HM2.out.frozen i
            have HMX := hidden (mx_next hjk.out HQ.out)
            have hm200 : mx l i j ≤ 200 := by have := HLE.out; omega
            have hq200 : hgt l q ≤ 200 := by have := HLQ.out; omega
            obtain ⟨M, hM⟩ : ∃ M, M = mx l i j := ⟨_, rfl⟩
            obtain ⟨Q, hQ⟩ : ∃ Q, Q = hgt l q := ⟨_, rfl⟩
            rw [← hM] at ci hm200 HMX HS2 HLE
            rw [← hQ] at cq hq200 HMX HS2 HLQ
            clear hM hQ h1 h2 h3 HTR HIF
            have hqn : (q : Int) < (n : Int) := by omega
            rcases (show M < Q + 1 ∨ Q + 1 < M ∨ M = Q + 1 by omega) with hlt | hgt' | heq
            · go_wp2_with fail
              go_still_tail 13, (by kernel_rfl)
              change wpList _ _ _ _ _ w2.drew
              go_wp2_with fail
              go_roundw
              case rel =>
                refine ⟨j + 1, _, by omega, by go_num, ?_, ?_, HS2, ?_⟩
                · exact ((HB2.out.trans (But.setCell g i _ w2))).drew
                · exact (HM2.out.set i _).congr fun x hx => by
                    split
                    · first | rfl | (refine congrArg _ ?_; omega) | omega
                    · rfl
                · show _ ≤ _; rw [HMX.out]; have h1 := HLE.out; have h2 := HLQ.out; omega
              case measure => simp [intOf]; omega
            · go_wp2_with fail
              go_still_tail 13, (by kernel_rfl)
              change wpList _ _ _ _ _ w2.drew
              go_wp2_with fail
              go_roundw
              case rel =>
                refine ⟨j + 1, _, by omega, by go_num, ?_, ?_, HS2, ?_⟩
                · exact ((HB2.out.trans (But.setCell g i _ w2))).drew
                · exact (HM2.out.set i _).congr fun x hx => by
                    split
                    · first | rfl | (refine congrArg _ ?_; omega) | omega
                    · rfl
                · show _ ≤ _; rw [HMX.out]; have h1 := HLE.out; have h2 := HLQ.out; omega
              case measure => simp [intOf]; omega
            · subst heq
              go_wp2_with fail
              go_still_tail 13, (by kernel_rfl)
              change wpList _ _ _ _ _ w2.drew
              go_wp2_with fail
              go_roundw
              case rel =>
                refine ⟨j + 1, _, by omega, by go_num, ?_, ?_, HS2, ?_⟩
                · exact ((HB2.out.trans (But.setCell g i _ w2))).drew
                · exact (HM2.out.set i _).congr fun x hx => by
                    split
                    · first | rfl | (refine congrArg _ ?_; omega) | omega
                    · rfl
                · show _ ≤ _; rw [HMX.out]; have h1 := HLE.out; have h2 := HLQ.out; omega
              case measure => simp [intOf]; omega
        · obtain rfl : j = m := by omega
          go_wp2_with fail
          go_ret
          have e : Hid (j = (nd l i).kids.length) := by show _ = _; rw [← HKS.out]; exact HMM.out
          refine Reached.yes HA.out HIL.out rfl HB.out HM.out ?_ ?_
          · have := HLE.out
            rw [e.out, mx_full HA.out HIL.out] at this
            exact this
          · rw [← e.out]; exact HS.out
end Go.Proofs.YtihcepkdihmjoaaDoor
