/- TreeMeasure, TreeKidsFit, TreeFits, TreeFitEq, TreeIsTree, TreeHeights, TreeRefRight, TreeRefRight2, in one text. -/
import Derived.Test.YtagacfcpepoaoaaGreatDoorTreeNd
import Derived.Test.YtagacfcpepoaoaaGreatDoorTreeRef1
import Derived.Test.YtagacfcpepoaoaaGreatDoorMGen
import Derived.StillTailTactics
import Derived.Test.YtagacfcpepoaoaaGreatDoorTreeRef2
import Derived.Laws.BitsAllLaws
import Derived.Laws.EntriesVeiled
namespace Go.Proofs.YtagacfcpepoaoaaGreatDoor
open Go.RowKit
set_option linter.unusedVariables false

/-- what it tells, and leaves -/
def Reached (l : List Nd) (g n at_ lv : Nat) (H : Nat → Int) (w : World) (e : Ending) (w' : World) : Prop :=
  ∃ (b : Bool) (H' : Nat → Int), e = .returned (.bool b) ∧ But g w w' ∧ Mine .i64 3 w' g n H' ∧ (b = true ↔ lv + hgt l at_ ≤ 201) ∧
    (b = true → (∀ j, Under l at_ j → H' j = (hgt l j : Int)) ∧ (∀ j, H' j = H j ∨ H' j = (hgt l j : Int)) ∧ ∀ j, at_ < j → H' j = H j)
theorem Reached.no {l : List Nd} {g n at_ lv : Nat} {H H' : Nat → Int} {w w' : World} {e : Ending} (he : e = .returned (.bool false)) (hb : But g w w') (hm : Mine .i64 3 w' g n H') (h : ¬ lv + hgt l at_ ≤ 201) : Reached l g n at_ lv H w e w' :=
  ⟨false, H', he, hb, hm, by simp [h], fun h => by cases h⟩
/-- what is so behind the first j kids -/
structure Sub (l : List Nd) (i j : Nat) (H H' : Nat → Int) : Prop where
  here : H' i = (mx l i j : Int)
  done : ∀ j', j' < j → ∀ q : Nat, (nd l i).kids.getD j' 0 = (q : Int) → ∀ x, Under l q x → H' x = (hgt l x : Int)
  else_ : ∀ x, x ≠ i → H' x = H x ∨ H' x = (hgt l x : Int)
  past : ∀ x, i < x → H' x = H x
theorem Sub.start (l : List Nd) (i : Nat) (H : Nat → Int) : Sub l i 0 H (fun x => if x = i then 1 else H x) :=
  ⟨by rw [if_pos rfl, mx_zero]; rfl, fun j' h => by omega, fun x hx => by rw [if_neg hx]; exact .inl rfl, fun x hx => by rw [if_neg (by omega)]⟩
theorem Sub.next {l : List Nd} {i j q : Nat} {H H' H2 : Nat → Int} (hA : Ahead l) (hi : i < l.length) (hj : j < (nd l i).kids.length) (hq : (nd l i).kids.getD j 0 = (q : Int)) (hqi : q < i) (h : Sub l i j H H')
    (h1 : ∀ x, Under l q x → H2 x = (hgt l x : Int)) (h2 : ∀ x, H2 x = H' x ∨ H2 x = (hgt l x : Int)) (h3 : ∀ x, q < x → H2 x = H' x) : Sub l i (j + 1) H (fun x => if x = i then (max (mx l i j) (1 + hgt l q) : Nat) else H2 x) := by
  have hun : ∀ r, r < i → ∀ x, Under l r x → x ≠ i := by
    intro r hr x hx e
    have := hx.le hA (by omega)
    omega
  refine ⟨by simp only [if_true]; rw [mx_next hj hq], ?_, ?_, ?_⟩
  · intro j' hj' r hr x hx
    obtain ⟨r', hr', hlt, _⟩ := kid_q hA hi (show j' < (nd l i).kids.length by omega)
    have e : r = r' := by rw [hr] at hr'; omega
    subst e
    simp only [if_neg (hun r hlt x hx)]
    rcases Nat.lt_or_ge j' j with g | g
    · have := h.done j' g r hr x hx
      rcases h2 x with e | e
      · rw [e]; exact this
      · exact e
    · obtain rfl : j' = j := by omega
      rw [hr] at hq
      have e : r = q := by omega
      subst e
      exact h1 x hx
  · intro x hx
    simp only [if_neg hx]
    rcases h2 x with e | e
    · rw [e]; exact h.else_ x hx
    · exact .inr e
  · intro x hx
    simp only [if_neg (show ¬ x = i by omega)]
    rw [h3 x (by omega)]
    exact h.past x hx
theorem Reached.yes {l : List Nd} {g n i lv : Nat} {H H' : Nat → Int} {w w' : World} {e : Ending} (hA : Ahead l) (hi : i < l.length) (he : e = .returned (.bool true)) (hb : But g w w') (hm : Mine .i64 3 w' g n H') (h : lv + hgt l i ≤ 201)
    (hs : Sub l i (nd l i).kids.length H H') : Reached l g n i lv H w e w' := by
  refine ⟨true, H', he, hb, hm, by simp [h], fun _ => ⟨?_, ?_, hs.past⟩⟩
  · intro x hx
    cases hx with
    | refl => rw [hs.here, mx_full hA hi]
    | step hk hu =>
      obtain ⟨j, hj, e⟩ := List.mem_iff_getElem.1 hk
      obtain ⟨q, hq, _, _⟩ := kid_q hA hi hj
      rw [List.getD_eq_getElem?_getD, List.getElem?_eq_getElem hj] at hq
      have e3 : _ = (q : Int) := e.symm.trans hq
      rw [e3, Int.toNat_natCast] at hu
      have hq : (nd l i).kids.getD j 0 = (q : Int) := by rw [List.getD_eq_getElem?_getD, List.getElem?_eq_getElem hj]; exact hq
      exact hs.done j hj q hq x hu
  · intro x
    by_cases hx : x = i
    · subst hx
      right
      rw [hs.here, mx_full hA hi]
    · exact hs.else_ x hx
end Go.Proofs.YtagacfcpepoaoaaGreatDoor

namespace Go.Proofs.YtagacfcpepoaoaaGreatDoor
open Go.RowKit
set_option linter.unusedVariables false

/-- the kinds of kids are kinds -/
def KindsIn (ks : List Int) : Prop := ∀ j, j < ks.length → ∃ k : Nat, ks.getD j 0 = (k : Int) ∧ k < 27
theorem KindsIn.drop {ks : List Int} (h : KindsIn ks) (d : Nat) : KindsIn (ks.drop d) := by
  intro j hj
  rw [List.length_drop] at hj
  obtain ⟨k, h1, h2⟩ := h (d + j) (by omega)
  exact ⟨k, by rw [drop_get]; exact h1, h2⟩
end Go.Proofs.YtagacfcpepoaoaaGreatDoor

namespace Go.Proofs.YtagacfcpepoaoaaGreatDoor
open Go.RowKit
set_option linter.unusedVariables false

end Go.Proofs.YtagacfcpepoaoaaGreatDoor

namespace Go.Proofs.YtagacfcpepoaoaaGreatDoor
open Go.RowKit
set_option linter.unusedVariables false

end Go.Proofs.YtagacfcpepoaoaaGreatDoor

namespace Go.Proofs.YtagacfcpepoaoaaGreatDoor
open Go.RowKit
set_option linter.unusedVariables false

/-- a row of n bools in a block of one's own -/
def Bools (w : World) (g n : Nat) (f : Nat → Bool) : Prop := ∃ cs : Array Value, w.heap[g]? = some (.cells cs 4 (0, 0)) ∧ n ≤ cs.size ∧ ∀ j, j < n → cs[j]? = some (.bool (f j))
theorem Bools.cell {w : World} {g n : Nat} {f : Nat → Bool} (h : Bools w g n f) {j : Nat} (hj : j < n) : w.cell? ⟨g, j, none⟩ = some (.bool (f j)) := by
  obtain ⟨cs, hb, _, hc⟩ := h
  simp [World.cell?, hb, hc j hj]
theorem Bools.frozen {w : World} {g n : Nat} {f : Nat → Bool} (h : Bools w g n f) (j : Nat) : w.frozen? ⟨g, j, none⟩ = false := by
  obtain ⟨cs, hb, _, _⟩ := h
  simp [World.frozen?, hb]
theorem Bools.lt {w : World} {g n : Nat} {f : Nat → Bool} (h : Bools w g n f) : g < w.heap.size := by
  obtain ⟨cs, hb, _, _⟩ := h
  exact (Array.getElem?_eq_some_iff.1 hb).1
theorem Bools.below {w w' : World} {g n : Nat} {f : Nat → Bool} (h : Bools w g n f) (hb : Below w.heap.size w w') : Bools w' g n f := by
  have hlt := h.lt
  obtain ⟨cs, h1, h2, h3⟩ := h
  exact ⟨cs, (hb.block g hlt).trans h1, h2, h3⟩
theorem Bools.congr {w : World} {g n : Nat} {f f' : Nat → Bool} (h : Bools w g n f) (e : ∀ j, j < n → f j = f' j) : Bools w g n f' := by
  obtain ⟨cs, hb, hn, hc⟩ := h
  exact ⟨cs, hb, hn, fun j hj => by rw [hc j hj, e j hj]⟩
theorem Bools.set {w : World} {g n : Nat} {f : Nat → Bool} (h : Bools w g n f) (i : Nat) (x : Bool) : Bools (w.setCell ⟨g, i, none⟩ (.bool x)) g n (fun j => if j = i then x else f j) := by
  obtain ⟨cs, hb, hn, hc⟩ := h
  refine ⟨cs.setIfInBounds i (.bool x), ?_, by simpa using hn, fun j hj => ?_⟩
  · simp [World.setCell, Array.getElem?_modify, hb]
  · rw [Array.getElem?_setIfInBounds]
    by_cases e : j = i
    · subst e
      simp [show j < cs.size by omega]
    · rw [if_neg (fun h => e h.symm)]
      show cs[j]? = some (.bool (if j = i then x else f j))
      rw [if_neg e]
      exact hc j hj
theorem Bools.made (w : World) (n : Nat) : Bools (w.alloc (.cells (madeCells #[.bool false] n) 4)) w.heap.size n (fun _ => false) := by
  obtain ⟨c, hb, hn, hc⟩ := World.rowIs_made w (.bool false) n 4
  exact ⟨c, hb, by omega, hc⟩
end Go.Proofs.YtagacfcpepoaoaaGreatDoor

namespace Go.Proofs.YtagacfcpepoaoaaGreatDoor
open Go.RowKit
set_option linter.unusedVariables false

theorem fit_kind {l : List Nd} {x : Nd} (h : fitB l x = true) : 1 ≤ x.kind ∧ x.kind ≤ 26 := by
  unfold fitB ownB at h
  simp only [Bool.and_eq_true, decide_eq_true_eq] at h
  exact ⟨h.1.1.1.1.1, h.1.1.1.1.2⟩
end Go.Proofs.YtagacfcpepoaoaaGreatDoor

namespace Go.Proofs.YtagacfcpepoaoaaGreatDoor
open Go.RowKit
set_option linter.unusedVariables false

theorem hgt_le {l : List Nd} (hA : Ahead l) : ∀ (N i : Nat), i < N → i < l.length → hgt l i ≤ i + 1 := by
  intro N
  induction N with
  | zero => intro i h; omega
  | succ N ih =>
    intro i hiN hi
    have : ∀ j, j ≤ (nd l i).kids.length → mx l i j ≤ i + 1 := by
      intro j
      induction j with
      | zero => intro _; rw [mx_zero]; omega
      | succ j ihj =>
        intro hj
        obtain ⟨q, hq, hqi, _⟩ := kid_q hA hi (show j < (nd l i).kids.length by omega)
        rw [mx_next (by omega) hq]
        have h1 := ihj (by omega)
        have h2 := ih q (by omega) (by omega)
        omega
    rw [← mx_full hA hi]
    exact this _ (Nat.le_refl _)
set_option maxRecDepth 100000 in
set_option maxHeartbeats 4000000 in
theorem height_any (a : Option Addr) (c n : Nat) (l : List Nd) (w : World) (hn : n = l.length) (hA : Ahead l) (hN : Nodes w a l) (hll : n ≤ 1000000000) : ∀ (N i : Nat), i < N → i < l.length →
    Calls Tryz.prog 27 #[.slice a n c, .int .i64 (i : Int)] w fun e w' => e = .returned (.int .i64 (hgt l i : Int)) ∧ w' = w := by
  intro N
  induction N with
  | zero => intro i h; omega
  | succ N ih =>
    intro i hiN hi
    have HNL := hidden hn
    have HN := hidden hN
    have HA := hidden hA
    have IH := hidden ih
    have HIL := hidden hi
    have hin : (i : Int) < (n : Int) := by omega
    clear ih
    obtain ⟨lb, lo, ha, hlb, h5⟩ := HN.out.at_ HIL.out
    have HOK := hidden (HN.out.2 i HIL.out)
    have c1 := h5.2.1
    have HKR := hidden HOK.out.rows
    have hkl := HOK.out.len
    obtain ⟨ks, hks⟩ : ∃ ks, ks = (nd l i).kids := ⟨_, rfl⟩
    obtain ⟨ka, hka⟩ : ∃ ka, ka = (nd l i).ka := ⟨_, rfl⟩
    obtain ⟨kc, hkc⟩ : ∃ kc, kc = (nd l i).kc := ⟨_, rfl⟩
    obtain ⟨m, hm⟩ : ∃ m, m = ks.length := ⟨_, rfl⟩
    rw [← hks, ← hka, ← hkc, ← hm] at c1
    rw [← hks, ← hka, ← hm] at HKR
    rw [← hks, ← hm] at hkl
    have HKS := hidden hks
    have HMM := hidden hm
    have HHL := hidden (hgt_le HA.out (i + 1) i (by omega) HIL.out)
    have HAA := hidden ha
    clear hks hka hkc hm h5 hn hN hA hi
    subst ha
    clear HAA
    go_enter Tryz.func27, Tryz.ntmps27
    go_wp2_with fail
    go_loop [5, 6] (fun t5 t6 => ∃ j h : Nat, j ≤ m ∧ t6 = .int .i64 (j : Int) ∧ t5 = .int .i64 (h : Int) ∧ h ≤ 1000000001 ∧ Hid (h = mx l i j)) (fun _ t6 => m - (intOf t6).toNat)
    case atStart => exact ⟨0, 1, by omega, rfl, rfl, by omega, (by show _ = _; rw [mx_zero])⟩
    case round =>
      obtain ⟨j, h, hj, rfl, rfl, hh, HH⟩ := hrel
      by_cases hjm : j < m
      · have hjmi : (j : Int) < (m : Int) := by omega
        have hjk : Hid (j < (nd l i).kids.length) := by show j < _; rw [← HKS.out, ← HMM.out]; exact hjm
        obtain ⟨q, hq, hqi, _⟩ := kid_q HA.out HIL.out hjk.out
        obtain ⟨kb, ko, rfl, hkb, hkc⟩ := HKR.out (by omega)
        have hc := hkc j hjm
        simp only at hc
        rw [HKS.out, hq] at hc
        have HQ := hidden hq
        have HQH := hidden (hgt_le HA.out (q + 1) q (by omega) (by have := HIL.out; omega))
        clear hkc hq
        go_wp2_with fail
        refine (IH.out q (by omega) (by have := HIL.out; omega)).mono ?_
        rintro e w1 ⟨rfl, hw1⟩
        rw [hw1]; clear hw1 w1
        have hQ : hgt l q ≤ 1000000000 := by have := HQH.out; omega
        obtain ⟨Q, hQQ⟩ : ∃ Q, Q = hgt l q := ⟨_, rfl⟩
        have HMX := hidden (mx_next hjk.out HQ.out)
        rw [← hQQ] at hQ HMX ⊢
        clear hQQ
        rcases (show h < 1 + Q ∨ 1 + Q < h ∨ h = 1 + Q by omega) with hlt | hgt' | heq
        · go_wp2_with fail
          go_round
          case rel => exact ⟨j + 1, 1 + Q, by omega, by go_num, by go_num, by omega, (by show _ = _; rw [HMX.out, ← HH.out]; omega)⟩
          case measure => simp [intOf]; omega
        · go_wp2_with fail
          go_round
          case rel => exact ⟨j + 1, h, by omega, by go_num, by go_num, by omega, (by show _ = _; rw [HMX.out, ← HH.out]; omega)⟩
          case measure => simp [intOf]; omega
        · subst heq
          go_wp2_with fail
          go_round
          case rel => exact ⟨j + 1, 1 + Q, by omega, by go_num, by go_num, by omega, (by show _ = _; rw [HMX.out, ← HH.out]; omega)⟩
          case measure => simp [intOf]; omega
      · obtain rfl : j = m := by omega
        go_wp2_with fail
        go_ret
        refine ⟨?_, rfl⟩
        have e : h = hgt l i := by rw [HH.out, HMM.out, HKS.out, mx_full HA.out HIL.out]
        rw [← e]
        rfl
end Go.Proofs.YtagacfcpepoaoaaGreatDoor

namespace Go.Proofs.YtagacfcpepoaoaaGreatDoor
open Go.RowKit
set_option linter.unusedVariables false

theorem height_lit (a : Option Addr) (c n : Nat) (l : List Nd) (w : World) (z : Int) (i : Nat) (hn : n = l.length) (hA : Ahead l) (hN : Nodes w a l) (hll : n ≤ 1000000000) (hi : i < l.length) (hz : z = (i : Int)) :
    Calls Tryz.prog 27 #[.slice a n c, .int .i64 z] w fun e w' => e = .returned (.int .i64 (hgt l i : Int)) ∧ w' = w := by
  subst hz
  exact height_any a c n l w hn hA hN hll (i + 1) i (by omega) hi
theorem Built.len {w0 w : World} {v : Value} {xs : List Int} (h : Built w0 w v xs) : ∃ a cap, v = .slice a xs.length cap ∧ Rows' .i64 w a xs.length (fun j => xs.getD j 0) := h.rows
set_option maxRecDepth 100000 in
set_option maxHeartbeats 8000000 in
theorem rright_any (a : Option Addr) (c n : Nat) (l : List Nd) (w : World) (hn : n = l.length) (hN : Nodes w a l) (hll : n ≤ 100000) :
    Calls Tryz.prog 8 #[.slice a n c] w (Tells (Rt l) w) := by
  have HNL := hidden hn
  have HN := hidden hN
  clear hn hN
  have HST := hidden (Built.start w #[] rfl)
  go_enter Tryz.func8, Tryz.ntmps8
  go_wp2_with fail
  go_loopw [3, 4] (fun t3 t4 wr => ∃ i : Nat, i ≤ n ∧ t4 = .int .i64 (i : Int) ∧ Hid (Built w wr t3 (seen l i 0)) ∧ Hid (Sofar l i 0) ∧ Hid (∀ j, j < i → fitB l (nd l j) = true)) (fun _ t4 _ => n - (intOf t4).toNat)
  case atStart => exact ⟨0, by omega, rfl, (by show Built _ _ _ _; rw [seen_zero]; exact HST.out), Sofar.start l, fun j hj => by omega⟩
  case round =>
    rename_i t3 _
    obtain ⟨i, hi, rfl, HBu, HS, HF⟩ := hrel
    by_cases hin : i < n
    · have hini : (i : Int) < (n : Int) := by omega
      have HIL : Hid (i < l.length) := by show i < l.length; rw [← HNL.out]; exact hin
      obtain ⟨lb, lo, ha, _, _⟩ := HN.out.at_ HIL.out
      subst ha
      have HOK := hidden (HN.out.2 i HIL.out)
      obtain ⟨x, hx⟩ : ∃ x, x = nd l i := ⟨_, rfl⟩
      rw [← hx] at HOK
      have HX := hidden hx
      have HKL := hidden HOK.out.len
      have hkl := HOK.out.len
      clear hx
      have H5 : ∀ w', Below w.heap.size w w' → Cells5 w' lb (lo + i * 5) x := by
        intro w' hb
        obtain ⟨b, o, e, _, h5⟩ := (HN.out.below hb).at_ HIL.out
        injection e with e
        injection e with e1 e2
        subst e1 e2
        rw [HX.out]
        exact h5
      have HH5 := hidden H5
      clear H5
      have c1 := (HH5.out wr HBu.out.2).2.1
      go_wp2_with fail
      obtain ⟨wo, hwo⟩ : ∃ wo, wo = wr := ⟨_, rfl⟩
      rw [← hwo] at HBu c1 ⊢
      clear hwo
      clear c1
      go_loopw [3, 5] (fun t3 t5 wr => ∃ k : Nat, k ≤ x.kids.length ∧ t5 = .int .i64 (k : Int) ∧ Hid (Built w wr t3 (seen l i k)) ∧ Hid (Sofar l i k)) (fun _ t5 _ => x.kids.length - (intOf t5).toNat)
      case atStart => exact ⟨0, by omega, rfl, HBu, HS⟩
      case round =>
        obtain ⟨k, hk, rfl, HBu, HS⟩ := hrel
        have c1 := (HH5.out wr HBu.out.2).2.1
        by_cases hkm : k < x.kids.length
        · have hkmi : (k : Int) < (x.kids.length : Int) := by omega
          have hkl' : Hid (k < (nd l i).kids.length) := by show k < _; rw [← HX.out]; exact hkm
          obtain ⟨kb, ko, hka, hkb, hkc⟩ := (HOK.out.rows.below HBu.out.2) (by omega)
          have hc := hkc k hkm
          simp only at hc
          rw [hka] at c1
          obtain ⟨z, hz⟩ : ∃ z, z = x.kids.getD k 0 := ⟨_, rfl⟩
          rw [← hz] at hc
          have HZ : Hid ((nd l i).kids.getD k 0 = z) := by show _ = _; rw [← HX.out, hz]
          clear hz hkc hka
          obtain ⟨ua, uc, hv, hur⟩ := HBu.out.rows
          subst hv
          have hlen : (seen l i k).length ≤ i := HS.out.len (Nat.le_of_lt HIL.out)
          have HUR := hidden hur
          clear hur
          obtain ⟨L, hL⟩ : ∃ L, L = (seen l i k).length := ⟨_, rfl⟩
          have HLL := hidden hL
          rw [← hL] at HUR hlen HBu ⊢
          clear hL
          by_cases hz0 : z < 0
          · go_wp2_with fail
            go_ret
            exact Tells.no rfl (fun h => far_not HIL.out hkl'.out (by rw [HZ.out]; omega) h.1) HBu.out.2
          · have hz0' : decide (z < 0) = false := by simpa using hz0
            by_cases hzi : (i : Int) ≤ z
            · go_wp2_with fail
              go_ret
              exact Tells.no rfl (fun h => far_not HIL.out hkl'.out (by rw [HZ.out]; omega) h.1) HBu.out.2
            · have hzi' : decide ((i : Int) ≤ z) = false := by simpa using hzi
              obtain ⟨u, rfl⟩ : ∃ u : Nat, z = u := ⟨z.toNat, by omega⟩
              go_wp2_with fail
              refine (hasInt_list _ _ _ (seen l i k) _ wr HLL.out (by omega) HUR.out).mono ?_
              rintro e w1 ⟨he, hw1⟩
              rw [hw1]; clear hw1 w1
              by_cases hmk : (u : Int) ∈ seen l i k
              · rw [decide_eq_true hmk] at he
                subst he
                have HMK := hidden hmk
                clear hmk
                go_wp2_with fail
                go_ret
                exact Tells.no rfl (fun h => dup_not HIL.out hkl'.out (by rw [HZ.out]; exact HMK.out) h.1) HBu.out.2
              · rw [decide_eq_false hmk] at he
                subst he
                have HMK := hidden hmk
                clear hmk
                have HS2 : Hid (Sofar l i (k + 1)) := HS.out.next hkl'.out (by rw [HZ.out]; omega) (by rw [HZ.out]; omega) (by rw [HZ.out]; exact HMK.out)
                have HE2 : Hid (seen l i (k + 1) = seen l i k ++ [(u : Int)]) := by show _ = _; rw [seen_next hkl'.out, HZ.out]
                go_wp2_with (at_builtin; refine wpList_push rfl (.tmp 44) (.tmp 46) rfl w _ _ _ _ rfl rfl HBu.out (by rw [← HLL.out]; omega) ?_; intro v1 w1 hb1)
                have HB1 := hidden hb1
                clear hb1
                go_wp2_with fail
                go_roundw
                case rel => exact ⟨k + 1, by omega, by go_num, (by show Built _ _ _ _; rw [HE2.out]; exact HB1.out), HS2⟩
                case measure => simp [intOf]; omega
        · obtain ⟨ek⟩ : Nonempty (k = x.kids.length) := ⟨by omega⟩
          have HEK := hidden ek
          clear ek
          have HS1 : Hid (Sofar l (i + 1) 0) := by
            refine Sofar.turn ?_ HIL.out
            rw [← HX.out, ← HEK.out]
            exact HS.out
          have HE1 : Hid (seen l i k = seen l (i + 1) 0) := by
            show _ = _
            rw [HEK.out, HX.out]
            exact seen_full HIL.out
          have hAK : ∀ j, j < (nd l i).kids.length → ∃ q : Nat, (nd l i).kids.getD j 0 = (q : Int) ∧ q < i := by
            intro j hj
            have hm : (nd l i).kids.getD j 0 ∈ (nd l i).kids := by
              rw [List.getD_eq_getElem?_getD, List.getElem?_eq_getElem hj]; exact List.getElem_mem hj
            have := HS1.out.ahead i (by omega) _ hm
            exact ⟨((nd l i).kids.getD j 0).toNat, by omega, by omega⟩
          have HIN : Hid (InL l x.kids) := by
            intro j hj
            rw [HX.out] at hj ⊢
            obtain ⟨q, h1, h2⟩ := hAK j hj
            exact ⟨q, h1, by have := HIL.out; omega⟩
          clear hAK
          obtain ⟨c0, _, c2, c3, c4⟩ := HH5.out wr HBu.out.2
          have HV : Hid (x.v = .agg #[.int .i64 x.kind, .slice x.ka x.kids.length x.kc, .int .i64 x.n, .string x.s, .int .i64 x.at_]) := rfl
          have hown := own_any x wr HOK.out.s
          rw [HV.out] at hown
          have HOWN := hidden hown
          clear hown
          go_wp2_with fail
          refine HOWN.out.mono ?_
          rintro e w1 ⟨rfl, hb1⟩
          have HB1 : Hid (Below w.heap.size w w1) := HBu.out.2.trans (hb1.mono HBu.out.2.size)
          have HBu1 := hidden (HBu.out.quiet hb1)
          clear hb1 c0 c1 c2 c3 c4
          cases ho : ownB x with
          | false =>
            have HO := hidden ho
            clear ho
            go_wp2_with fail
            go_ret
            refine Tells.no rfl (fun h => ?_) HB1.out
            have := h.2.1 i HIL.out
            rw [← HX.out] at this
            unfold fitB at this
            rw [HO.out] at this
            cases this
          | true =>
            have HO := hidden ho
            clear ho
            obtain ⟨c0, c1, c2, c3, c4⟩ := HH5.out w1 HB1.out
            have hkids := kids_any (some ⟨lb, lo, none⟩) c l x w1 (HN.out.below HB1.out) (HOK.out.below HB1.out) HIN.out (by rw [← HNL.out]; omega)
            rw [HV.out, ← HNL.out] at hkids
            have HKD := hidden hkids
            clear hkids
            go_wp2_with fail
            refine HKD.out.mono ?_
            rintro e w2 ⟨rfl, hb2⟩
            have HB2 : Hid (Below w.heap.size w w2) := HB1.out.trans (hb2.mono HB1.out.size)
            have HBu2 := hidden (HBu1.out.quiet hb2)
            clear hb2 c0 c1 c2 c3 c4
            cases hk2 : kidsB x.kind (kk l x) with
            | false =>
              have HK2 := hidden hk2
              clear hk2
              go_wp2_with fail
              go_ret
              refine Tells.no rfl (fun h => ?_) HB2.out
              have := h.2.1 i HIL.out
              rw [← HX.out] at this
              unfold fitB at this
              rw [HK2.out] at this
              simp at this
            | true =>
              have HK2 := hidden hk2
              clear hk2
              go_wp2_with fail
              go_roundw
              case rel => exact ⟨i + 1, by omega, by go_num, (by show Built _ _ _ _; rw [← HE1.out]; exact HBu2.out), HS1, (fun j hj => by
                rcases Nat.lt_or_ge j i with g | g
                · exact HF.out j g
                · rw [show j = i by omega, ← HX.out]
                  unfold fitB
                  rw [HO.out, HK2.out]
                  rfl)⟩
              case measure => simp [intOf]; omega
    · obtain rfl : i = n := by omega
      have HSN : Hid (Sofar l l.length 0) := by show Sofar _ _ _; rw [← HNL.out]; exact HS.out
      have HIFF : Hid (IsT l ↔ 0 < i ∧ (seen l i 0).length = i - 1) := by
        have h2 := ist_iff HSN.out
        rw [← HNL.out] at h2
        exact h2
      have HFT : Hid (Fits l) := fun j hj => HF.out j (by rw [HNL.out]; exact hj)
      obtain ⟨ua, uc, hv, hur⟩ := HBu.out.rows
      subst hv
      have hlen : (seen l i 0).length ≤ i := HS.out.len (by rw [← HNL.out]; exact Nat.le_refl _)
      obtain ⟨L, hL⟩ : ∃ L, L = (seen l i 0).length := ⟨_, rfl⟩
      rw [← hL] at HIFF hlen ⊢
      clear hL hur
      rcases Nat.eq_zero_or_pos i with h0 | h0
      · subst h0
        go_wp2_with fail
        go_ret
        exact Tells.no rfl (fun h => by have := HIFF.out.1 h.1; omega) HBu.out.2
      · by_cases hqq : L = i - 1
        · have hqq' : ((L : Int) == (i : Int) - 1) = true := by simp; omega
          have HT : Hid (IsT l) := HIFF.out.2 ⟨h0, hqq⟩
          have HA : Hid (Ahead l) := HT.out.2.1
          clear hqq
          go_wp2_with fail
          refine (height_lit a c i l wr _ (i - 1) HNL.out HA.out (HN.out.below HBu.out.2) (by omega) (by rw [← HNL.out]; omega) (by omega)).mono ?_
          rintro e w1 ⟨rfl, hw1⟩
          rw [hw1]; clear hw1 w1
          have HHG : Hid (hgt l (l.length - 1) = hgt l (i - 1)) := by show _ = _; rw [← HNL.out]
          obtain ⟨G, hG⟩ : ∃ G, G = hgt l (i - 1) := ⟨_, rfl⟩
          rw [← hG] at HHG ⊢
          clear hG
          by_cases hg : G ≤ 200
          · have hg' : decide ((G : Int) ≤ 200) = true := by simp; omega
            go_wp2_with fail
            go_ret
            exact Tells.yes (by first | rfl | simp [hg]) ⟨HT.out, HFT.out, by rw [HHG.out]; exact hg⟩ HBu.out.2
          · have hg' : decide ((G : Int) ≤ 200) = false := by simp; omega
            go_wp2_with fail
            go_ret
            exact Tells.no (by first | rfl | simp [hg]) (fun h => hg (by rw [← HHG.out]; exact h.2.2)) HBu.out.2
        · have hqq' : ((L : Int) == (i : Int) - 1) = false := by simp; omega
          have HQ := hidden hqq
          clear hqq
          go_wp2_with fail
          go_ret
          exact Tells.no rfl (fun h => HQ.out (HIFF.out.1 h.1).2) HBu.out.2
end Go.Proofs.YtagacfcpepoaoaaGreatDoor
