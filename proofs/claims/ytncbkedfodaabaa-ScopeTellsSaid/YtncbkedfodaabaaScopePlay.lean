/- What is done, one after another: what is open and declared behind it; the walk of play. -/
import Derived.Test.YtncbkedfodaabaaScopeWorks
import Derived.Test.YtncbkedfodaabaaScopeAct
import Derived.StillTailTactics
namespace Go.Proofs.Ytncbkedfodaabaa
open Go.RowKit
set_option linter.unusedVariables false

/-- one more is done -/
def stepS (least : Nat) (s : List (List Dc) × List Nat) (x : Ac) : List (List Dc) × List Nat :=
  if x.doo = 0 then ([] :: s.1, s.2) else if x.doo = 1 then (if least < s.1.length then (closed s.1, s.2) else s) else if x.doo = 2 then declared s.1 s.2 x.nm x.kd else s
def playS (least : Nat) (s : List (List Dc) × List Nat) (l : List Ac) : Nat → List (List Dc) × List Nat
  | 0 => s
  | n + 1 => stepS least (playS least s l n) (ac l n)
theorem closed_length (R : List (List Dc)) : (closed R).length ≤ R.length := by
  unfold closed
  split
  · simp
  · exact Nat.le_refl _
theorem declared_length (R : List (List Dc)) (ks : List Nat) (s : ByteArray) (k : Int) : (declared R ks s k).1.length = R.length ∧ (declared R ks s k).2.length ≤ ks.length + 1 := by
  unfold declared
  split
  · split
    · exact ⟨rfl, Nat.le_succ _⟩
    · simp
  · exact ⟨rfl, Nat.le_succ _⟩
theorem step_length (least : Nat) (s : List (List Dc) × List Nat) (x : Ac) : (stepS least s x).1.length ≤ s.1.length + 1 ∧ (stepS least s x).2.length ≤ s.2.length + 1 := by
  have h1 := closed_length s.1
  have h2 := declared_length s.1 s.2 x.nm x.kd
  unfold stepS
  split
  · simp
  · split
    · split
      · exact ⟨by simp only; omega, by simp only; omega⟩
      · exact ⟨Nat.le_succ _, Nat.le_succ _⟩
    · split
      · exact ⟨by rw [h2.1]; omega, h2.2⟩
      · exact ⟨Nat.le_succ _, Nat.le_succ _⟩
theorem play_length (least : Nat) (s : List (List Dc) × List Nat) (l : List Ac) : ∀ n, (playS least s l n).1.length ≤ s.1.length + n ∧ (playS least s l n).2.length ≤ s.2.length + n
  | 0 => ⟨Nat.le_refl _, Nat.le_refl _⟩
  | n + 1 => by
    have h1 := play_length least s l n
    have h2 := step_length least (playS least s l n) (ac l n)
    rw [playS]
    omega
set_option maxRecDepth 100000 in
set_option maxHeartbeats 4000000 in
theorem play_any {w0 w : World} {p : Nat} {F : Nat → Prop} {R : List (List Dc)} {ks : List Nat} {a : Option Addr} {l : List Ac} (H : IsS w p F R ks) (cap least : Nat) (hA : Acts w0 a l) (hS : Short l) (h0 : Below w0.heap.size w0 w) (hF : Off w0.heap.size F)
    (hl : l.length ≤ 100) (hR : R.length ≤ 1000) (hks : ks.length ≤ 1000) (hle : least ≤ 2000) :
    Calls Try.prog 19 #[.pointer (some ⟨p, 0, none⟩), .slice a l.length cap, .int .i64 (least : Int)] w fun e w' => e = .returned (.int .i64 ((playS least (R, ks) l l.length).1.length : Int)) ∧
      ∃ F', IsS w' p F' (playS least (R, ks) l l.length).1 (playS least (R, ks) l l.length).2 ∧ Tn F w w' ∧ Grew F F' w := by
  obtain ⟨S, hSz⟩ : ∃ S, S = w0.heap.size := ⟨_, rfl⟩
  have hs0 : S ≤ w.heap.size := by rw [hSz]; exact h0.size
  rw [← hSz] at h0 hF
  obtain ⟨q, hq⟩ : ∃ q, q = l.length := ⟨_, rfl⟩
  have hq1 : q ≤ 100 := by omega
  rw [← hq]
  have HH := hidden H
  have HA := hidden hA
  have HS := hidden hS
  have H0 := hidden h0
  have HF := hidden hF
  have HQ := hidden hq
  have HR := hidden hR
  have HK := hidden hks
  have HSZ := hidden hSz
  clear H hA hS h0 hF hq hl hR hks hSz hs0
  go_enter Try.func19, Try.ntmps19
  go_wp2_with fail
  go_loopw [7] (fun i wr => ∃ (k : Nat) (F' : Nat → Prop), k ≤ q ∧ i = .int .i64 (k : Int) ∧ Hid (IsS wr p F' (playS least (R, ks) l k).1 (playS least (R, ks) l k).2) ∧ Hid (Tn F w wr) ∧ Hid (Grew F F' w)) (fun i _ => q - (intOf i).toNat)
  case atStart => exact ⟨0, F, by omega, rfl, HH, hidden (Tn.below (Below.refl _ _)), hidden (Grew.refl F w)⟩
  case round =>
    obtain ⟨k, F', hk, rfl, HI, HT, HGr⟩ := hrel
    have HB := hidden (HT.out.from HF.out H0.out (by rw [HSZ.out]; exact Nat.le_refl _))
    have hlen := play_length least (R, ks) l k
    obtain ⟨s, hs⟩ : ∃ s, s = playS least (R, ks) l k := ⟨_, rfl⟩
    have hlR : s.1.length ≤ 1100 := by rw [hs]; have := HR.out; simp only at hlen; omega
    have hlK : s.2.length ≤ 1100 := by rw [hs]; have := HK.out; simp only at hlen; omega
    clear hlen
    rw [← hs] at HI
    have HSS := hidden hs
    clear hs
    by_cases hkn : k < q
    · have hki : (k : Int) < (q : Int) := by omega
      obtain ⟨gb, go, rfl, hglt, hgc⟩ := HA.out (by have := HQ.out; omega)
      have hlow : ∀ {wx : World}, Below S w0 wx → ∀ i, wx.cell? ⟨gb, i, none⟩ = w0.cell? ⟨gb, i, none⟩ := fun hb i => hb.cell (p := ⟨gb, i, none⟩) (by rw [HSZ.out]; exact hglt)
      obtain ⟨x, hx⟩ : ∃ x, x = ac l k := ⟨_, rfl⟩
      obtain ⟨y0, y1, y2⟩ := hgc k (by have := HQ.out; omega)
      have hxs : x.nm.size ≤ maxLen := by rw [hx]; exact HS.out k (by have := HQ.out; omega)
      rw [← hx] at y0 y1 y2
      have z0 := (hlow HB.out _).trans y0
      have z1 := (hlow HB.out _).trans y1
      have z2 := (hlow HB.out _).trans y2
      have hst : playS least (R, ks) l (k + 1) = stepS least s x := by rw [HSS.out, hx]; rfl
      have HST := hidden hst
      have HXS := hidden hxs
      clear hx hst hxs y0 y1 y2 hgc hlow
      obtain ⟨xd, xn, xk⟩ := x
      simp only at z0 z1 z2 HXS
      by_cases hd0 : xd = 0
      · subst hd0
        go_wp2_with (go_at_call 9; refine (open_any HI.out (by omega)).mono ?_; rintro e w1 ⟨rfl, F1, hS1, hT1, hG1⟩)
        go_roundw
        case rel => exact ⟨k + 1, F1, by omega, by go_num, by rw [HST.out]; exact hidden hS1, hidden (HT.out.trans hT1 HGr.out), hidden (HGr.out.trans hG1 HT.out.size)⟩
        case measure => simp [intOf]; omega
      · have hd0' : (xd == 0) = false := by simp [hd0]
        by_cases hd1 : xd = 1
        · subst hd1
          by_cases hls : least < s.1.length
          · have hli : (least : Int) < (s.1.length : Int) := by omega
            have HLS := hidden hls
            clear hls
            go_wp2_with (first | (go_at_call 16; with_reducible refine (depth_any HI.out).mono ?_; rintro e w1 ⟨rfl, hw1⟩; rw [hw1]; clear hw1 w1) | (go_at_call 11; refine (close_any HI.out (by omega) (by omega)).mono ?_; rintro e w1 ⟨rfl, F1, hS1, hT1, hG1⟩))
            go_roundw
            case rel => exact ⟨k + 1, F1, by omega, by go_num, by rw [HST.out]; unfold stepS; simp only [show ((1 : Int) = 0) = False by simp, if_false, if_true]; rw [if_pos HLS.out]; exact hidden hS1, hidden (HT.out.trans hT1 HGr.out), hidden (HGr.out.trans hG1 HT.out.size)⟩
            case measure => simp [intOf]; omega
          · have hli : ¬ (least : Int) < (s.1.length : Int) := by omega
            have HLS := hidden hls
            clear hls
            go_wp2_with (go_at_call 16; with_reducible refine (depth_any HI.out).mono ?_; rintro e w1 ⟨rfl, hw1⟩; rw [hw1]; clear hw1 w1)
            go_roundw
            case rel => exact ⟨k + 1, F', by omega, by go_num, by rw [HST.out]; unfold stepS; simp only [show ((1 : Int) = 0) = False by simp, if_false, if_true]; rw [if_neg HLS.out]; exact HI, HT, HGr⟩
            case measure => simp [intOf]; omega
        · have hd1' : (xd == 1) = false := by simp [hd1]
          by_cases hd2 : xd = 2
          · subst hd2
            clear hd0 hd1 hd0' hd1'
            go_wp2_with fail
            go_still_tail 11, (by kernel_rfl)
            change wpList _ _ _ _ _ wr.drew
            obtain ⟨w4, hw4⟩ : ∃ w4, w4 = wr.drew := ⟨_, rfl⟩
            rw [← hw4]
            have HI4 := hidden (show IsS w4 p F' s.1 s.2 by rw [hw4]; exact HI.out.same (fun _ _ => rfl) (Nat.le_refl _))
            have HT4 := hidden (show Tn F w w4 by rw [hw4]; exact ⟨HT.out.os, HT.out.tape, HT.out.output, HT.out.size, HT.out.block⟩)
            clear hw4 z0 z1 z2 HI HB HT
            go_wp2_with (go_at_call 13; refine (declare_any HI4.out HXS.out xk (by omega) (by omega)).mono ?_; rintro e w1 ⟨rfl, F1, hS1, hT1, hG1⟩)
            go_roundw
            case rel => exact ⟨k + 1, F1, by omega, by go_num, by rw [HST.out]; unfold stepS; simp only [show ((2 : Int) = 0) = False by simp, show ((2 : Int) = 1) = False by simp, if_false, if_true]; exact hidden hS1, hidden (HT4.out.trans hT1 HGr.out), hidden (HGr.out.trans hG1 HT4.out.size)⟩
            case measure => simp [intOf]; omega
          · have hd2' : (xd == 2) = false := by simp [hd2]
            have HD := hidden (And.intro hd0 (And.intro hd1 hd2))
            clear hd0 hd1 hd2
            go_wp2_with fail
            go_roundw
            case rel => exact ⟨k + 1, F', by omega, by go_num, by rw [HST.out]; unfold stepS; rw [if_neg HD.out.1, if_neg HD.out.2.1, if_neg HD.out.2.2]; exact HI, HT, HGr⟩
            case measure => simp [intOf]; omega
    · have hkq : k = q := by omega
      subst hkq
      go_wp2_with (go_at_call 16; with_reducible refine (depth_any HI.out).mono ?_; rintro e w1 ⟨rfl, hw1⟩; rw [hw1]; clear hw1 w1)
      go_ret
      rw [← HSS.out]
      exact ⟨rfl, F', HI.out, HT.out, HGr.out⟩
end Go.Proofs.Ytncbkedfodaabaa
