/- The walk through a function's parameters. -/
import Derived.Test.YtagacfcpepoaoaaGreatDoorParseKind
import Derived.Test.YtagacfcpepoaoaaGreatDoorExprWalk2
namespace Go.Proofs.YtagacfcpepoaoaaGreatDoor
open Go.RowKit
set_option linter.unusedVariables false

variable {B g P T N : Nat} {L : List Tk} {w0 w w' : World} {R0 R R' : Bx} {d : Nat} {o : Except Flt PS} {v : Value} {acc : List Int} {K n : Int} {S : ByteArray}
/-- a node that has no list, beside a list -/
structure Run2 (B g P T : Nat) (L : List Tk) (w0 : World) (R0 : Bx) (d : Nat) (w : World) (R : Bx) (o : Except Flt PS) (N : Nat) (K : Int) (v : Value) (acc : List Int) (n : Int) (S : ByteArray) (a : Int) : Prop extends Pre B g P T L w0 R0 d w R o v acc where
  box : Held w N 59 #[.int .i64 K, .slice none 0 0, .int .i64 n, .string S, .int .i64 a]
  off : R.vn.ownBlock ≠ some N
  new : w0.heap.size ≤ N
theorem Run2.step {a : Int} {o' : Except Flt PS} {d' : Nat} (H : Run2 B g P T L w0 R0 d w R o N K v acc n S a) (hA : Any B g L w' R' d' o') (F : Fr g w w' R R') (hz : R'.Z = R.Z) : Run2 B g P T L w0 R0 d' w' R' o' N K v acc n S a := by
  refine ⟨H.toPre.step hA F hz, H.any.held F H.box (by decide) (by decide) H.off, fun e => ?_, H.new⟩
  rcases F.vn N e with h | h
  · exact H.off h
  · have := H.box.lt; omega
theorem Run2.below {a : Int} (H : Run2 B g P T L w0 R0 d w R o N K v acc n S a) (hb : Below w.heap.size w w') : Run2 B g P T L w0 R0 d w' R o N K v acc n S a := H.step (H.any.below hb) (Fr.of_below R hb) rfl
theorem Pre.node2 (H : Pre B g P T L w0 R0 d w R o v acc) (K n : Int) (S : ByteArray) (a : Int) : Run2 B g P T L w0 R0 d (w.alloc (.cells #[.int .i64 K, .slice none 0 0, .int .i64 n, .string S, .int .i64 a] 59)) R o w.heap.size K v acc n S a :=
  ⟨H.below ((Below.refl _ _).alloc (Nat.le_refl _) _), Held.new _ _ _, H.any.off_new, H.fr.size⟩
theorem Run2.set_n {a : Int} (H : Run2 B g P T L w0 R0 d w R o N K v acc n S a) (n' : Int) : Run2 B g P T L w0 R0 d (w.setCell ⟨N, 2, none⟩ (.int .i64 n')) R o N K v acc n' S a :=
  ⟨H.toPre.any_set H.box H.off H.new 2 _, H.box.set 2 _, H.off, H.new⟩
theorem Run2.n0 {a : Int} (H : Run2 B g P T L w0 R0 d w R o N K v acc n S a) : w.cell? ⟨N, 0, none⟩ = some (.int .i64 K) := H.box.at_ rfl
theorem Run2.n1 {a : Int} (H : Run2 B g P T L w0 R0 d w R o N K v acc n S a) : w.cell? ⟨N, 1, none⟩ = some (.slice none 0 0) := H.box.at_ rfl
theorem Run2.n2 {a : Int} (H : Run2 B g P T L w0 R0 d w R o N K v acc n S a) : w.cell? ⟨N, 2, none⟩ = some (.int .i64 n) := H.box.at_ rfl
theorem Run2.n3 {a : Int} (H : Run2 B g P T L w0 R0 d w R o N K v acc n S a) : w.cell? ⟨N, 3, none⟩ = some (.string S) := H.box.at_ rfl
theorem Run2.n4 {a : Int} (H : Run2 B g P T L w0 R0 d w R o N K v acc n S a) : w.cell? ⟨N, 4, none⟩ = some (.int .i64 a) := H.box.at_ rfl
theorem now_nil (B : Nat) (w : World) : Now B w (.slice none 0 0) [] := ⟨rfl, .inl ⟨rfl, rfl⟩⟩
theorem Does.params {acc : List Int} {u : Out} (h : Does o (fun s n => needName s fun nm at_ s1 => if 8 ≤ acc.length then some (.error (3, at_)) else needKind s1 fun k s2 => Out.go (some (lay (En 24 [] k nm at_) s2)) fun q s3 => if s3.is comma then prd n (.params (acc ++ [hd1 q])) d s3.next else Go.Proofs.YtagacfcpepoaoaaGreatDoor.need rp s3 fun s4 => some (.ok (acc ++ [hd1 q], s4))) u) : Does o (fun s n => prd n (.params acc) d s) u := by
  cases o with
  | error f => exact h
  | ok s => exact (PReads.params h).ev
theorem failO_err (x a : Nat) (o : Except Flt PS) : ∃ f, failO x a o = .error f := by
  cases o with
  | ok s => exact ⟨_, rfl⟩
  | error f => exact ⟨_, rfl⟩
/-- the parameters so far; if there are more, and if not -/
def ParSt (B g P T : Nat) (L : List Tk) (w0 : World) (R0 : Bx) (d : Nat) (o : Except Flt PS) (t3 t4 : Value) (wr : World) : Prop :=
  ∃ (m : Bool) (o1 : Except Flt PS) (R1 : Bx) (acc : List Int), t4 = .bool m ∧ Pre B g P T L w0 R0 d wr R1 o1 t3 acc ∧ Lim o1 L.length L.length ∧
    ((m = true ∧ acc.length ≤ 8 ∧ ∀ u, Does o1 (fun s n => prd n (.params acc) d s) u → Does o (fun s n => prd n (.params []) d s) u) ∨
     (m = false ∧ acc.length ≤ 9 ∧ ∀ u, Does o1 (fun s n => need rp s fun s4 => some (.ok (acc, s4))) u → Does o (fun s n => prd n (.params []) d s) u))
/-- what a parameter's tail tells -/
def parTail (d : Nat) (acc : List Int) (X : ByteArray) (ta : Nat) : PS → Nat → Option Out := fun s1 n => if 8 ≤ acc.length then some (.error (3, ta)) else needKind s1 fun k s2 => Out.go (some (lay (En 24 [] k X ta) s2)) fun q s3 => if s3.is comma then prd n (.params (acc ++ [hd1 q])) d s3.next else need rp s3 fun s4 => some (.ok (acc ++ [hd1 q], s4))
def parEnd (d : Nat) (acc : List Int) : Int → PS → Nat → Option Out := fun q s3 n => if s3.is comma then prd n (.params (acc ++ [q])) d s3.next else need rp s3 fun s4 => some (.ok (acc ++ [q], s4))
theorem tail_of {acc : List Int} {X : ByteArray} {ta : Nat} {o1 : Except Flt PS} {u1 u : Out} (h8 : acc.length ≠ 8) (hle : acc.length ≤ 8) (h1 : Does (kindO o1) (fun s _ => some (lay (En 24 [] (kdO o1 : Int) X (ta : Int)) s)) u1) (h : Does (toO u1) (parEnd d acc (kidO u1)) u) : Does o1 (parTail d acc X ta) u := by
  have h2 := Does.kind (o := o1) (G := fun k s2 n => Out.go (some (lay (En 24 [] k X ta) s2)) fun q s3 => parEnd d acc (hd1 q) s3 n) (Does.go (G := parEnd d acc) h1 h)
  cases o1 with
  | error f => exact h2
  | ok s => exact Ev.ite_neg (by omega) h2
theorem tail_long {acc : List Int} {X : ByteArray} {ta : Nat} {o1 : Except Flt PS} {f : Flt} (h8 : acc.length = 8) (hf : failO 3 ta o1 = .error f) : Does o1 (parTail d acc X ta) (.error f) := by
  cases o1 with
  | error f' => injection hf with hf; subst hf; rfl
  | ok s => injection hf with hf; subst hf; exact Ev.ite_pos (by omega) Ev.const
theorem end_more {acc : List Int} {q : Int} {o3 : Except Flt PS} {s : PS} {u : Out} (hs : o3 = .ok s) (hb : s.is comma = true) (h : Does (.ok s.next) (fun s n => prd n (.params (acc ++ [q])) d s) u) : Does o3 (parEnd d acc q) u :=
  Does.ite_yes (X := fun s n => prd n (.params (acc ++ [q])) d s) (Y := fun s3 n => need rp s3 fun s4 => some (.ok (acc ++ [q], s4))) hs hb h
theorem end_last {acc : List Int} {q : Int} {o3 : Except Flt PS} {u : Out} (hb : ∀ s, o3 = .ok s → s.is comma = false) (h : Does o3 (fun s n => need rp s fun s4 => some (.ok (acc ++ [q], s4))) u) : Does o3 (parEnd d acc q) u :=
  Does.ite_no (X := fun s3 n => prd n (.params (acc ++ [q])) d s3.next) (Y := fun s3 n => need rp s3 fun s4 => some (.ok (acc ++ [q], s4))) hb h
theorem bad_more {acc : List Int} {q : Int} {f : Flt} {u : Out} (h : Does (.error f) (fun s n => need rp s fun s4 => some (.ok (acc ++ [q], s4))) u) : Does (.error f) (parEnd d acc q) u := h
theorem name_less {n m : Nat} (h : Lim o n m) : Lim (nameO o) (n - 1) (m - 1) := by
  cases o with
  | error f => exact Lim.err
  | ok s =>
    by_cases hb : s.tok.kind = 1
    · have h1 := h s rfl
      have h2 := kind_some (s := s) (by omega)
      exact Lim.name (h.mono (by omega) (by omega))
    · rw [nameO_no hb]; exact Lim.err
theorem kind_less {n m : Nat} (h : Lim o (n - 1) (m - 1)) : Lim (kindO o) (n - 2) (m - 2) := by
  cases o with
  | error f => exact Lim.err
  | ok s =>
    by_cases hb : kindAt s.tok = 0
    · rw [kindO_no hb]; exact Lim.err
    · have h1 := h s rfl
      have h2 := kind_some (kindAt_kind hb)
      exact Lim.kind (h.mono (by omega) (by omega))
set_option maxRecDepth 100000 in
set_option maxHeartbeats 20000000 in
theorem params_any (H : Any B g L w R d o) (hP : Par w g P T) (hl : Lim o L.length L.length) :
    Calls Tryz.prog 71 #[.pointer (some ⟨P, 0, none⟩)] w fun en w' => ∃ u R' v l, en = .returned v ∧ Does (needO lp o) (fun s2 n => if s2.is rp then some (.ok ([], s2.next)) else prd n (.params []) d s2) u ∧ Pre B g P T L w R d w' R' (toO u) v l ∧ l.length ≤ 9 ∧ ∀ p s, u = .ok (p, s) → l = p := by
  obtain ⟨w0, hw0⟩ : ∃ w0, w0 = w := ⟨_, rfl⟩
  obtain ⟨R0, hR0⟩ : ∃ R0, R0 = R := ⟨_, rfl⟩
  have HR : Hid (Pre B g P T L w0 R0 d w R o (.slice none 0 0) []) := by rw [hw0, hR0]; exact Pre.start H hP
  have HW0 := hidden hw0
  have HR0 := hidden hR0
  have HL := hidden hl
  have hp := HR.out.par.c0
  clear H hP hl hw0 hR0
  go_enter Tryz.func71, Tryz.ntmps71
  go_wp2_with fail
  refine (any_want lp HR.out.any).mono ?_
  rintro en w1 ⟨⟨x, rfl⟩, ha, hf⟩
  replace HR := hidden (HR.out.step ha hf rfl)
  clear ha hf hp
  obtain ⟨oa, hoa⟩ : ∃ oa, oa = needO lp o := ⟨_, rfl⟩
  rw [← hoa] at HR
  have HOA := hidden hoa
  have HLA : Hid (Lim oa L.length L.length) := by rw [hoa]; exact Lim.need_le HL.out
  clear hoa
  have hp := HR.out.par.c0
  go_wp2_with fail
  refine (any_skip rp HR.out.any).mono ?_
  rintro en w2 ⟨c, o', rfl, ha, hf, hc⟩
  replace HR := hidden (HR.out.step ha hf rfl)
  clear ha hf hp
  rcases hc with ⟨rfl, s, hs, hb, ho⟩ | ⟨rfl, ho, hb⟩
  · rw [ho] at HR
    have HS := hidden hs
    have HB := hidden hb
    clear ho hs hb
    go_wp2_with fail
    go_ret
    have hw0 := HW0.out
    have hR0 := HR0.out
    subst hw0 hR0
    refine ⟨.ok ([], s.next), _, _, [], rfl, ?_, HR.out, by simp, fun p s' e => by injection e with e; injection e with e1 e2⟩
    rw [← HOA.out]
    exact Does.ite_yes (X := fun s n => some (.ok ([], s))) (Y := fun s2 n => prd n (.params []) d s2) HS.out HB.out Ev.const
  · rw [ho] at HR
    have HB := hidden hb
    clear ho hb
    go_wp2_with fail
    go_loopw [3, 4] (fun t3 t4 wr => Hid (ParSt B g P T L w0 R0 d oa t3 t4 wr)) (fun _ t4 wr => boolN t4 * (1 + lam g L.length wr))
    case atStart => exact ⟨true, _, _, [], rfl, HR.out, HLA.out, .inl ⟨rfl, by simp, fun u h => h⟩⟩
    case round =>
      obtain ⟨m, o1, R1, acc, rfl, hpre, hlim, hm⟩ := hrel.out
      clear HR hrel
      obtain ⟨la, lc, hv⟩ := own_shape5 hpre.now
      obtain ⟨A, hA⟩ : ∃ A, A = acc.length := ⟨_, rfl⟩
      rw [← hA] at hv
      subst hv
      have HA := hidden hA
      have HX := hidden hpre
      have HLM := hidden hlim
      clear hpre hlim
      rcases hm with ⟨rfl, h8, hcont⟩ | ⟨rfl, h9, hcont⟩
      · have HC := hidden hcont
        have HACC : Hid (acc.length ≤ 8) := h8
        rw [← hA] at h8
        clear hcont hA
        go_wp2_with fail
        refine (pnamed_any HX.out.any HX.out.par 24).mono ?_
        rintro en w3 ⟨ta, rfl, hta, ha, hf⟩
        have HY := hidden (HX.out.step ha hf rfl)
        have HTA := hidden hta
        obtain ⟨X, hX⟩ : ∃ X, X = nmO o1 := ⟨_, rfl⟩
        rw [← hX]
        have HXX := hidden hX
        obtain ⟨W, hW⟩ : ∃ W, W = w3.alloc (.cells #[.int .i64 24, .slice none 0 0, .int .i64 0, .string X, .int .i64 (ta : Int)] 59) := ⟨_, rfl⟩
        obtain ⟨N, hN⟩ : ∃ N, N = w3.heap.size := ⟨_, rfl⟩
        have HQ : Hid (Run2 B g P T L w0 R0 d W R1 (nameO o1) N 24 (.slice la A lc) acc 0 X (ta : Int)) := by rw [hW, hN]; exact HY.out.node2 24 0 X ta
        have HLN : Hid (Lim (nameO o1) L.length L.length) := Lim.name_le HLM.out
        clear ha hf hta hX HY
        by_cases h8e : A = 8
        · have h8i : ((A : Int) == 8) = true := by simp; omega
          have HA8 : Hid (acc.length = 8) := by show _ = _; rw [← HA.out]; exact h8e
          clear h8 h8e
          go_wp2_with fail
          rw [← hW, ← hN]
          clear hW hN
          have hp := HQ.out.par.c0
          have b4 := HQ.out.n4
          go_still_tail 6, (by kernel_rfl)
          change wpList _ _ _ _ _ W.drew
          replace HQ := hidden (HQ.out.below (below_drew W))
          clear hp b4
          go_wp2_with fail
          refine (any_fail 3 ta (by decide) HQ.out.any).mono ?_
          rintro en w4 ⟨⟨x4, rfl⟩, ha, hf⟩
          replace HQ := hidden (HQ.out.step ha hf rfl)
          obtain ⟨f1, hf1⟩ := failO_err 3 ta (nameO o1)
          rw [hf1] at HQ
          have HF1 := hidden hf1
          clear ha hf hf1
          go_wp2_with fail
          refine (kind_any HQ.out.any HQ.out.par).mono ?_
          rintro en w5 ⟨rfl, ha, hf⟩
          replace HQ := hidden (HQ.out.step ha hf rfl)
          obtain ⟨kd, hkd⟩ : ∃ kd : Nat, kd = kdO (Except.error f1) := ⟨_, rfl⟩
          rw [← hkd]
          clear ha hf hkd
          have b2 := HQ.out.n2
          have g2 := HQ.out.box.frozen 2
          replace HQ := hidden (HQ.out.set_n (kd : Int))
          obtain ⟨w6, hw6⟩ : ∃ w6, w6 = w5.setCell ⟨N, 2, none⟩ (.int .i64 (kd : Int)) := ⟨_, rfl⟩
          rw [← hw6] at HQ
          go_wp2_with fail
          rw [← hw6]
          clear hw6 b2 g2
          have hp := HQ.out.par.c0
          have b0 := HQ.out.n0
          have b1 := HQ.out.n1
          have b2 := HQ.out.n2
          have b3 := HQ.out.n3
          have b4 := HQ.out.n4
          go_wp2_with fail
          have HQD := hidden (HQ.out.below (below_drew w6))
          go_region_law (first
            | (go_simp; go_at_call 44; refine (any_put 24 (.slice none 0 0) [] _ _ ta HQD.out.any (now_nil w0.heap.size _) Lim.err (by simp)).mono ?_; rintro en w7 ⟨u1, R7, hdo, hc, hli⟩; obtain rfl := hc.en; have HPU := hidden (HQD.out.toPre.step hc.any hc.fr hc.z); have HDU := hidden hdo; have HLU := hidden hli; obtain ⟨k, hk⟩ : ∃ k, k = kidO u1 := ⟨_, rfl⟩; rw [← hk]; have HK := hidden hk; clear hdo hc hli hk)
            | (refine step_kid rfl (.tmp 37) (.tmp 44) rfl w0.heap.size w7 (.slice la A lc) acc k (by rfl) (by rfl) HPU.out.now HPU.out.fr.size (by have := HACC.out; omega) ?_; intro v3 w75 h3 hg3 hw3; obtain ⟨va, vc, hv3⟩ := own_shape5 h3; obtain ⟨R3, hr3, hvn⟩ := HPU.out.push h3 hg3 hw3; have HV := hidden hr3; have hp7 := hr3.par.c0; clear hr3 h3 hg3 hw3 hvn; rw [List.length_append, List.length_singleton] at hv3; subst hv3))
          all_goals
            clear hp b0 b1 b2 b3 b4 HQ HQD
            have hp := hp7
            clear hp7
            go_wp2_with fail
            refine (any_skip comma HV.out.any).mono ?_
            rintro en w8 ⟨c, o', rfl, ha, hf, hc⟩
            have HU := hidden (HV.out.step ha hf rfl)
            clear ha hf hp
            rcases hc with ⟨rfl, s, hs, hb, ho⟩ | ⟨rfl, ho, hb⟩
            · exfalso
              have h1 := HDU.out
              have h2 : u1 = .error f1 := h1
              rw [h2] at hs
              cases hs
            · rw [ho] at HU
              clear ho hb
              have HU1 : Hid (u1 = .error f1) := HDU.out
              go_wp2_with fail
              go_roundw
              case rel => exact ⟨false, _, _, _, rfl, HU.out, by rw [HU1.out]; exact Lim.err, .inr ⟨rfl, by rw [List.length_append, List.length_singleton]; have := HACC.out; omega, fun u h => by
                rw [HU1.out] at h
                rw [show u = _ from h]
                exact HC.out _ (Does.params (Does.name (G := parTail d acc) (fun s hs => HTA.out s hs) (by rw [← HXX.out]; exact tail_long HA8.out HF1.out)))⟩⟩
              case measure => show 0 * _ < 1 * _; omega
        · have h8i : ((A : Int) == 8) = false := by simp; omega
          have HA8 : Hid (acc.length ≠ 8) := by show _ ≠ _; rw [← HA.out]; exact h8e
          clear h8 h8e
          have hp := HQ.out.par.c0
          go_wp2_with fail
          rw [← hW, ← hN]
          clear hW hN hp
          refine (kind_any HQ.out.any HQ.out.par).mono ?_
          rintro en w5 ⟨rfl, ha, hf⟩
          replace HQ := hidden (HQ.out.step ha hf rfl)
          obtain ⟨kd, hkd⟩ : ∃ kd : Nat, kd = kdO (nameO o1) := ⟨_, rfl⟩
          rw [← hkd]
          have HKD := hidden hkd
          clear ha hf hkd
          have b2 := HQ.out.n2
          have g2 := HQ.out.box.frozen 2
          replace HQ := hidden (HQ.out.set_n (kd : Int))
          obtain ⟨w6, hw6⟩ : ∃ w6, w6 = w5.setCell ⟨N, 2, none⟩ (.int .i64 (kd : Int)) := ⟨_, rfl⟩
          rw [← hw6] at HQ
          go_wp2_with fail
          rw [← hw6]
          clear hw6 b2 g2
          have hp := HQ.out.par.c0
          have b0 := HQ.out.n0
          have b1 := HQ.out.n1
          have b2 := HQ.out.n2
          have b3 := HQ.out.n3
          have b4 := HQ.out.n4
          go_wp2_with fail
          have HQD := hidden (HQ.out.below (below_drew w6))
          go_region_law (first
            | (go_simp; go_at_call 44; refine (any_put 24 (.slice none 0 0) [] _ _ ta HQD.out.any (now_nil w0.heap.size _) (Lim.kind_le HLN.out) (by simp)).mono ?_; rintro en w7 ⟨u1, R7, hdo, hc, hli⟩; obtain rfl := hc.en; have HPU := hidden (HQD.out.toPre.step hc.any hc.fr hc.z); have HDU := hidden hdo; have HLU := hidden hli; obtain ⟨k, hk⟩ : ∃ k, k = kidO u1 := ⟨_, rfl⟩; rw [← hk]; have HK := hidden hk; clear hdo hc hli hk)
            | (refine step_kid rfl (.tmp 37) (.tmp 44) rfl w0.heap.size w7 (.slice la A lc) acc k (by rfl) (by rfl) HPU.out.now HPU.out.fr.size (by have := HACC.out; omega) ?_; intro v3 w75 h3 hg3 hw3; obtain ⟨va, vc, hv3⟩ := own_shape5 h3; obtain ⟨R3, hr3, hvn⟩ := HPU.out.push h3 hg3 hw3; have HV := hidden hr3; have hp7 := hr3.par.c0; clear hr3 h3 hg3 hw3 hvn; rw [List.length_append, List.length_singleton] at hv3; subst hv3))
          all_goals
            clear hp b0 b1 b2 b3 b4 HQ HQD
            have hp := hp7
            clear hp7
            go_wp2_with fail
            refine (any_skip comma HV.out.any).mono ?_
            rintro en w8 ⟨c, o', rfl, ha, hf, hc⟩
            have HU := hidden (HV.out.step ha hf rfl)
            clear ha hf hp
            have HTL : Hid (∀ u, Does (toO u1) (parEnd d acc k) u → Does oa (fun s n => prd n (.params []) d s) u) := fun u h => HC.out _ (Does.params (Does.name (G := parTail d acc) (fun s hs => HTA.out s hs) (by rw [← HXX.out]; exact tail_of HA8.out HACC.out (by rw [← HKD.out]; exact HDU.out) (by rw [← HK.out]; exact h))))
            have HLV : Hid (∀ n m, Lim o1 n m → Lim (toO u1) (n - 2 + 1) (m - 2)) := fun n m h => HLU.out _ _ (kind_less (name_less h))
            rcases hc with ⟨rfl, s, hs, hb, ho⟩ | ⟨rfl, ho, hb⟩
            · rw [ho] at HU
              have HS := hidden hs
              have HB := hidden hb
              clear ho hs hb
              obtain ⟨s0, hs0⟩ : ∃ s0, o1 = .ok s0 := by
                cases o1 with
                | ok s0 => exact ⟨s0, rfl⟩
                | error f =>
                  have h1 : u1 = .error f := HDU.out
                  rw [h1] at HS
                  exact absurd HS.out (by intro h; cases h)
              have HS0 := hidden hs0
              clear hs0
              have HMS : Hid (lam g L.length w8 < lam g L.length wr) := by
                have h1 : Good B g L w8 _ d s.next := HU.out.any
                have h2 := HX.out.any
                rw [HS0.out] at h2
                have h2 : Good B g L wr R1 d s0 := h2
                have h3 := HLV.out (s0.l.length + s0.r.length) s0.r.length (by rw [HS0.out]; intro s' e; injection e with e; subst e; exact ⟨Nat.le_refl _, Nat.le_refl _⟩) s HS.out
                have h4 := is_some HB.out
                have h5 := h2.some
                show lam _ _ _ < lam _ _ _
                rw [h1.lam, h2.lam]
                omega
              have HLW : Hid (Lim (.ok s.next) L.length L.length) := by
                have h1 := HLV.out _ _ HLM.out
                rw [HS.out] at h1
                have h2 := (HLM.out s0 HS0.out).1
                have h3 := HX.out.any
                rw [HS0.out] at h3
                have h4 := Good.some h3
                exact (h1.next_le HB.out).self.mono (by omega) (by omega)
              go_wp2_with fail
              go_roundw
              case rel => exact ⟨true, _, _, _, rfl, HU.out, HLW.out, .inl ⟨rfl, by rw [List.length_append, List.length_singleton]; have h1 := HACC.out; have h2 := HA8.out; omega, fun u h => HTL.out u (end_more HS.out HB.out h)⟩⟩
              case measure => have := HMS.out; show 1 * _ < 1 * _; omega
            · rw [ho] at HU
              have HB := hidden hb
              clear ho hb
              have HLW : Hid (Lim (toO u1) L.length L.length) := by
                intro s hs
                cases o1 with
                | error f =>
                  have h1 : u1 = .error f := HDU.out
                  rw [h1] at hs
                  cases hs
                | ok s0 =>
                  have h1 := HLV.out _ _ HLM.out s hs
                  have h3 : Good B g L wr R1 d s0 := HX.out.any
                  have h4 := h3.some
                  have h2 := (HLM.out s0 rfl).1
                  exact ⟨by omega, by omega⟩
              go_wp2_with fail
              go_roundw
              case rel => exact ⟨false, _, _, _, rfl, HU.out, HLW.out, .inr ⟨rfl, by rw [List.length_append, List.length_singleton]; have h1 := HACC.out; omega, fun u h => HTL.out u (end_last HB.out h)⟩⟩
              case measure => show 0 * _ < 1 * _; omega
      · have HC := hidden hcont
        have HACC : Hid (acc.length ≤ 9) := h9
        clear hcont hA h9
        have hp := HX.out.par.c0
        go_wp2_with fail
        refine (any_want rp HX.out.any).mono ?_
        rintro en w3 ⟨⟨x3, rfl⟩, ha, hf⟩
        have HY := hidden (HX.out.step ha hf rfl)
        clear ha hf hp
        go_wp2_with fail
        go_ret
        have hw0 := HW0.out
        have hR0 := HR0.out
        subst hw0 hR0
        have hfin : ∀ u, Does (needO rp o1) (fun s n => some (.ok (acc, s))) u → Does (needO lp o) (fun s2 n => if s2.is rp then some (.ok ([], s2.next)) else prd n (.params []) d s2) u := fun u h => by
          rw [← HOA.out]
          exact Does.ite_no (X := fun s2 n => some (.ok ([], s2.next))) (Y := fun s2 n => prd n (.params []) d s2) HB.out (HC.out u (Does.need (b := rp) (G := fun s4 n => some (.ok (acc, s4))) h))
        have hY := HY.out
        cases hn : needO rp o1 with
        | error f =>
          rw [hn] at hY hfin
          exact ⟨.error f, _, _, acc, rfl, hfin _ rfl, hY, HACC.out, fun p s e => by cases e⟩
        | ok s =>
          rw [hn] at hY hfin
          exact ⟨.ok (acc, s), _, _, acc, rfl, hfin _ Ev.const, hY, HACC.out, fun p s' e => by injection e with e; injection e with e1 e2⟩
end Go.Proofs.YtagacfcpepoaoaaGreatDoor
