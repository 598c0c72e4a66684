/- The walk through the statements that begin with a name. -/
import Derived.Test.YtagacfcpepoaoaaGreatDoorParseStmt
namespace Go.Proofs.YtagacfcpepoaoaaGreatDoor
open Go.RowKit
set_option linter.unusedVariables false

variable {B g P T N : Nat} {L : List Tk} {w0 w w' : World} {R0 R R' : Bx} {d : Nat} {o : Except Flt PS} {v : Value} {acc : List Int} {K n : Int} {S : ByteArray}
theorem inner_good (a b : List UInt8) {s : PS} (H : Good B g L w R d s) (hd : d ≤ 200) :
    Calls Tryz.prog 104 #[.pointer (some ⟨g, 0, none⟩), .string ⟨a.toArray⟩, .string ⟨b.toArray⟩] w (Post B g L (.inner a b) w R d s) := inner_of (all_of B g L s.r.length).2 a b w R d s H hd (Nat.le_succ _)
theorem call_good (nm : ByteArray) (A : Nat) {s : PS} (H : Good B g L w R d s) (hd : d ≤ 200) :
    Calls Tryz.prog 105 #[.pointer (some ⟨g, 0, none⟩), .string nm, .int .i64 (A : Int)] w (Post B g L (.call nm A) w R d s) := call_of (all_of B g L s.r.length).2 nm A w R d s H hd (Nat.le_succ _)
theorem Post.any {m : Md} {s : PS} {en : Ending} (h : Post B g L m w R d s en w') : ∃ u R', Does (.ok s) (fun s n => rd n m d s) u ∧ Came B g L w R d u en w' R' ∧ ∀ n m, Lim (.ok s) n m → Lim (toO u) n m := by
  obtain ⟨u, hrd, he⟩ := h
  obtain ⟨R', hc⟩ := Ends.came he
  refine ⟨u, R', Does.of_reads hrd, hc, fun n m hl => ?_⟩
  match u, hrd with
  | .error f, _ => exact Lim.err
  | .ok (p, s1), hrd =>
    intro s' e
    injection e with e
    subst e
    have h1 := hl s rfl
    have h2 := hrd.slack
    exact ⟨by omega, by omega⟩
/-- a list of one number is made -/
theorem Pre.list1 (H : Pre B g P T L w0 R0 d w R o v acc) (k : Int) : ∃ R1, Pre B g P T L w0 R0 d (w.alloc (.cells #[.int .i64 k] 3)) R1 o (.slice (some ⟨w.heap.size, 0, none⟩) 1 1) [k] := by
  have hB : Below w.heap.size w (w.alloc (.cells #[.int .i64 k] 3)) := (Below.refl _ _).alloc (Nat.le_refl _) _
  have H1 := H.below hB
  refine ⟨{ R with Z := fun j => R.Z j ∨ j = w.heap.size }, H.any.widen hB _ (fun j hj => ?_), (H.fr.trans (Fr.of_below R hB)).right _, fun j hj => .inl (H.z0 j hj), fun j hj => .inr ?_, own_base (now_new w [k] #[.int .i64 k] rfl (by simp) 1 rfl) H.fr.size, H1.par, H.base⟩
  · rcases hj with hj | hj
    · exact .inl hj
    · exact .inr ⟨by omega, by rw [hj]; simp⟩
  · simp [Value.ownBlock] at hj
    exact hj.symm
theorem is_ne {s : PS} {a b : List UInt8} (h : s.is a = true) (hne : a ≠ b) : s.is b = false := sees_other h hne
theorem Does.place {s : PS} {tb : Nat} {F : PS → Int → Nat → Option Out} {u : Out} (h : tb = s.tok.place) (hd : Does (.ok s) (fun s1 m => F s1 (tb : Int) m) u) : Does (.ok s) (fun s1 m => F s1 (s1.tok.place : Int) m) u := by
  subst h
  exact hd
set_option maxRecDepth 100000 in
set_option maxHeartbeats 8000000 in
theorem onName_any (H : Any B g L w R d o) (hP : Par w g P T) (hd : ∀ s, o = .ok s → d ≤ 200) (hl : Lim o L.length L.length) :
    Calls Tryz.prog 99 #[.pointer (some ⟨P, 0, none⟩)] w fun en w' => ∃ u R', Does o (fun s m => needName s fun nm at_ s1 => if s1.is lp then Out.go (rd m (.call nm at_) d s1) fun k s2 => need semi s2 fun s3 => some (lay (En 22 [hd1 k] 0 ⟨#[]⟩ at_) s3) else if s1.is lb then Out.go (rd m (.inner lb rb) d s1) fun a s2 => need eqs s2 fun s3 => needEx m d s3 fun b s4 => need semi s4 fun s5 => some (lay (En 14 [hd1 a, b] 0 nm s1.tok.place) s5) else need eqs s1 fun s2 => needEx m d s2 fun a s3 => need semi s3 fun s4 => some (lay (En 13 [a] 0 nm at_) s4)) u ∧ Came B g L w R d u en w' R' ∧ ∀ n m, Lim o (n + 1) (m + 1) → Lim (toO u) (n + 1) m := by
  have HR := hidden (Pre.start H hP)
  obtain ⟨w0, hw0⟩ : ∃ w0, w0 = w := ⟨_, rfl⟩
  obtain ⟨R0, hR0⟩ : ∃ R0, R0 = R := ⟨_, rfl⟩
  have HW0 := hidden hw0
  have HR0 := hidden hR0
  have HDD := hidden hd
  have HL := hidden hl
  have hfd := field_at
  clear H hP hd hl
  go_enter Tryz.func99, Tryz.ntmps99
  rw [veil 2]
  go_wp2_with fail
  refine (pnamed_any HR.out.any HR.out.par 13).mono ?_
  rintro en w1 ⟨ta, rfl, hta, ha, hf⟩
  replace HR := hidden (HR.out.step ha hf rfl)
  have HTA := hidden hta
  obtain ⟨X, hX⟩ : ∃ X, X = nmO o := ⟨_, rfl⟩
  rw [← hX]
  have HX := hidden hX
  clear ha hf hta hX
  obtain ⟨W, hW⟩ : ∃ W, W = w1.alloc (.cells #[.int .i64 13, .slice none 0 0, .int .i64 0, .string X, .int .i64 (ta : Int)] 59) := ⟨_, rfl⟩
  obtain ⟨N, hN⟩ : ∃ N, N = w1.heap.size := ⟨_, rfl⟩
  have HQ : Hid (Run B g P T L w0 R0 d W R (nameO o) N 13 (.slice none 0 0) [] 0 X (ta : Int)) := by rw [hW, hN, hw0, hR0]; exact HR.out.node 13 0 X ta
  clear hw0 hR0 HR
  go_wp2_with fail
  rw [← hW, ← hN]
  clear hW hN
  have hp := HQ.out.par.c0
  refine wp_veil ?_
  go_wp2_with fail
  refine (any_token HQ.out.any).mono ?_
  rintro en w2 ⟨tk, tn, tb, tx, rfl, htb, hb⟩
  have HTB := hidden htb
  replace HQ := hidden (HQ.out.below hb)
  clear hb htb hp
  have hp := HQ.out.par.c0
  have HD1 : Hid (∀ s, nameO o = .ok s → d ≤ 200) := fun s hs => by cases o with | error f => cases hs | ok s => exact HDD.out s rfl
  have HLN : Hid (∀ n m, Lim o n m → Lim (nameO o) n m) := fun n m h => Lim.name_le h
  go_wp2_with fail
  refine (any_is eqs HQ.out.any).mono ?_
  rintro en w3 ⟨c, rfl, hb, hc⟩
  replace HQ := hidden (HQ.out.below hb)
  clear hb hp
  have hp := HQ.out.par.c0
  rcases hc with ⟨rfl, s, hs, hb⟩ | ⟨rfl, hb⟩
  · have HB := hidden hb
    have HS := hidden hs
    clear hb hs
    have b0 := HQ.out.n0
    have b1 := HQ.out.n1
    have b2 := HQ.out.n2
    have b3 := HQ.out.n3
    have b4 := HQ.out.n4
    go_wp2_with fail
    refine (assigned_any HQ.out.toPre HD1.out (HLN.out _ _ HL.out) (by simp)).mono ?_
    rintro en w5 ⟨u2, R5, hd2, hc2, hl2⟩
    obtain rfl := hc2.en
    have HD2 := hidden hd2
    have HC2 := hidden hc2
    have HL2 : Hid (∀ n m, Lim o (n + 1) (m + 1) → Lim (toO u2) (n + 1) m) := fun n m h => hl2 n m (HLN.out _ _ h)
    clear hd2 hc2 hl2
    go_wp2_with fail
    go_ret
    have hw0 := HW0.out
    have hR0 := HR0.out
    subst hw0 hR0
    exact ⟨u2, R5, Does.name (G := fun X A s1 m => if s1.is lp then Out.go (rd m (.call X A) d s1) fun k s2 => need semi s2 fun s3 => some (lay (En 22 [hd1 k] 0 ⟨#[]⟩ A) s3) else if s1.is lb then Out.go (rd m (.inner lb rb) d s1) fun a s2 => need eqs s2 fun s3 => needEx m d s3 fun b s4 => need semi s4 fun s5 => some (lay (En 14 [hd1 a, b] 0 X s1.tok.place) s5) else need eqs s1 fun s2 => needEx m d s2 fun a s3 => need semi s3 fun s4 => some (lay (En 13 [a] 0 X A) s4)) HTA.out (by rw [← HX.out]; exact Does.ite_no (X := (fun s1 m => Out.go (rd m (.call X ta) d s1) fun k s2 => need semi s2 fun s3 => some (lay (En 22 [hd1 k] 0 ⟨#[]⟩ (ta : Int)) s3))) (Y := (fun s1 m => if s1.is lb then Out.go (rd m (.inner lb rb) d s1) fun a s2 => need eqs s2 fun s3 => needEx m d s3 fun b s4 => need semi s4 fun s5 => some (lay (En 14 [hd1 a, b] 0 X (s1.tok.place : Int)) s5) else need eqs s1 fun s2 => needEx m d s2 fun a s3 => need semi s3 fun s4 => some (lay (En 13 [a] 0 X (ta : Int)) s4))) (fun s1 h1 => by rw [HS.out] at h1; injection h1 with h1; subst h1; exact is_ne HB.out (by decide)) (Does.ite_no (X := (fun s1 m => Out.go (rd m (.inner lb rb) d s1) fun a s2 => need eqs s2 fun s3 => needEx m d s3 fun b s4 => need semi s4 fun s5 => some (lay (En 14 [hd1 a, b] 0 X (s1.tok.place : Int)) s5))) (Y := (fun s1 m => need eqs s1 fun s2 => needEx m d s2 fun a s3 => need semi s3 fun s4 => some (lay (En 13 [a] 0 X (ta : Int)) s4))) (fun s1 h1 => by rw [HS.out] at h1; injection h1 with h1; subst h1; exact is_ne HB.out (by decide)) HD2.out)), HC2.out, fun n m h => HL2.out n m h⟩
  · have HB1 := hidden hb
    clear hb
    go_wp2_with fail
    refine (any_is lb HQ.out.any).mono ?_
    rintro en w4 ⟨c, rfl, hb, hc⟩
    replace HQ := hidden (HQ.out.below hb)
    clear hb hp
    have hp := HQ.out.par.c0
    rcases hc with ⟨rfl, s, hs, hb⟩ | ⟨rfl, hb⟩
    · have HB := hidden hb
      have HS := hidden hs
      clear hb hs
      go_wp2_with fail
      refine (inner_good lb rb (by have := HQ.out.any; rw [HS.out] at this; exact this) (HD1.out s HS.out)).mono ?_
      intro en w5 hpost
      obtain ⟨u1, R1, hdo, hc, hli⟩ := hpost.any
      obtain rfl := hc.en
      replace HQ := hidden (HQ.out.step hc.any hc.fr hc.z)
      have HDI := hidden hdo
      have HLI := hidden hli
      obtain ⟨k, hk⟩ : ∃ k, k = kidO u1 := ⟨_, rfl⟩
      rw [← hk]
      have HK := hidden hk
      obtain ⟨R2, hpre⟩ := HQ.out.toPre.list1 k
      have HPR := hidden hpre
      have hal := (HQ.out.below ((Below.refl _ _).alloc (Nat.le_refl _) (.cells #[.int .i64 k] 3))).n3
      clear hdo hc hli hp hk hpost hpre
      go_wp2_with fail
      refine (assigned_any HPR.out (fun s1 h1 => HD1.out s HS.out) (HLI.out _ _ (by have := HLN.out _ _ HL.out; rw [HS.out] at this; exact this)) (by simp)).mono ?_
      rintro en w6 ⟨u2, R5, hd2, hc2, hl2⟩
      obtain rfl := hc2.en
      have HD2 := hidden hd2
      have HC2 := hidden hc2
      have HL2 : Hid (∀ n m, Lim o (n + 1) (m + 1) → Lim (toO u2) (n + 1) m) := fun n m h => hl2 n m (HLI.out _ _ (by have := HLN.out _ _ h; rw [HS.out] at this; exact this))
      clear hd2 hc2 hl2
      go_wp2_with fail
      go_ret
      have hw0 := HW0.out
      have hR0 := HR0.out
      subst hw0 hR0
      exact ⟨u2, R5, Does.name (G := fun X A s1 m => if s1.is lp then Out.go (rd m (.call X A) d s1) fun k s2 => need semi s2 fun s3 => some (lay (En 22 [hd1 k] 0 ⟨#[]⟩ A) s3) else if s1.is lb then Out.go (rd m (.inner lb rb) d s1) fun a s2 => need eqs s2 fun s3 => needEx m d s3 fun b s4 => need semi s4 fun s5 => some (lay (En 14 [hd1 a, b] 0 X s1.tok.place) s5) else need eqs s1 fun s2 => needEx m d s2 fun a s3 => need semi s3 fun s4 => some (lay (En 13 [a] 0 X A) s4)) HTA.out (by rw [← HX.out]; exact Does.ite_no (X := (fun s1 m => Out.go (rd m (.call X ta) d s1) fun k s2 => need semi s2 fun s3 => some (lay (En 22 [hd1 k] 0 ⟨#[]⟩ (ta : Int)) s3))) (Y := (fun s1 m => if s1.is lb then Out.go (rd m (.inner lb rb) d s1) fun a s2 => need eqs s2 fun s3 => needEx m d s3 fun b s4 => need semi s4 fun s5 => some (lay (En 14 [hd1 a, b] 0 X (s1.tok.place : Int)) s5) else need eqs s1 fun s2 => needEx m d s2 fun a s3 => need semi s3 fun s4 => some (lay (En 13 [a] 0 X (ta : Int)) s4))) (fun s1 h1 => by rw [HS.out] at h1; injection h1 with h1; subst h1; exact is_ne HB.out (by decide)) (Does.ite_at (X := (fun s1 m => Out.go (rd m (.inner lb rb) d s1) fun a s2 => need eqs s2 fun s3 => needEx m d s3 fun b s4 => need semi s4 fun s5 => some (lay (En 14 [hd1 a, b] 0 X (s1.tok.place : Int)) s5))) (Y := (fun s1 m => need eqs s1 fun s2 => needEx m d s2 fun a s3 => need semi s3 fun s4 => some (lay (En 13 [a] 0 X (ta : Int)) s4))) HS.out HB.out (Does.place (F := fun s1 z m => Out.go (rd m (.inner lb rb) d s1) fun a s2 => need eqs s2 fun s3 => needEx m d s3 fun b s4 => need semi s4 fun s5 => some (lay (En 14 [hd1 a, b] 0 X z) s5)) (HTB.out s HS.out).2 (Does.go (G := fun a s2 m => need eqs s2 fun s3 => needEx m d s3 fun b s4 => need semi s4 fun s5 => some (lay (En 14 [a, b] 0 X (tb : Int)) s5)) HDI.out (by rw [← HK.out]; exact HD2.out))))), HC2.out, fun n m h => HL2.out n m h⟩
    · have HB2 := hidden hb
      clear hb
      go_wp2_with fail
      refine (any_is lp HQ.out.any).mono ?_
      rintro en w6 ⟨c, rfl, hb, hc⟩
      replace HQ := hidden (HQ.out.below hb)
      clear hb hp
      have hp := HQ.out.par.c0
      rcases hc with ⟨rfl, s, hs, hb⟩ | ⟨rfl, hb⟩
      · have HB := hidden hb
        have HS := hidden hs
        clear hb hs
        have b3 := HQ.out.n3
        have b4 := HQ.out.n4
        go_wp2_with fail
        go_still_tail 8, (by kernel_rfl)
        change wpList _ _ _ _ _ w6.drew
        replace HQ := hidden (HQ.out.below (below_drew w6))
        clear b3 b4
        go_wp2_with fail
        refine (call_good X ta (by have := HQ.out.any; rw [HS.out] at this; exact this) (HD1.out s HS.out)).mono ?_
        intro en w7 hpost
        obtain ⟨u1, R1, hdo, hc, hli⟩ := hpost.any
        obtain rfl := hc.en
        replace HQ := hidden (HQ.out.step hc.any hc.fr hc.z)
        have HDI := hidden hdo
        have HLI := hidden hli
        obtain ⟨k, hk⟩ : ∃ k, k = kidO u1 := ⟨_, rfl⟩
        rw [← hk]
        have HK := hidden hk
        obtain ⟨R2, hpre⟩ := HQ.out.toPre.list1 k
        have HPR := hidden hpre
        have hal := (HQ.out.below ((Below.refl _ _).alloc (Nat.le_refl _) (.cells #[.int .i64 k] 3))).n4
        clear hdo hc hli hp hk hpost hpre
        go_wp2_with fail
        refine (end_any (a := ta) HPR.out (HLI.out _ _ (by have := HLN.out _ _ HL.out; rw [HS.out] at this; exact this)) (by simp)).mono ?_
        rintro en w8 ⟨u2, R5, hd2, hc2, hl2⟩
        obtain rfl := hc2.en
        have HD2 := hidden hd2
        have HC2 := hidden hc2
        have HL2 : Hid (∀ n m, Lim o (n + 1) (m + 1) → Lim (toO u2) (n + 1) m) := fun n m h => hl2 n m (HLI.out _ _ (by have := HLN.out _ _ h; rw [HS.out] at this; exact this))
        clear hd2 hc2 hl2
        go_wp2_with fail
        go_ret
        have hw0 := HW0.out
        have hR0 := HR0.out
        subst hw0 hR0
        exact ⟨u2, R5, Does.name (G := fun X A s1 m => if s1.is lp then Out.go (rd m (.call X A) d s1) fun k s2 => need semi s2 fun s3 => some (lay (En 22 [hd1 k] 0 ⟨#[]⟩ A) s3) else if s1.is lb then Out.go (rd m (.inner lb rb) d s1) fun a s2 => need eqs s2 fun s3 => needEx m d s3 fun b s4 => need semi s4 fun s5 => some (lay (En 14 [hd1 a, b] 0 X s1.tok.place) s5) else need eqs s1 fun s2 => needEx m d s2 fun a s3 => need semi s3 fun s4 => some (lay (En 13 [a] 0 X A) s4)) HTA.out (by rw [← HX.out]; exact Does.ite_at (X := (fun s1 m => Out.go (rd m (.call X ta) d s1) fun k s2 => need semi s2 fun s3 => some (lay (En 22 [hd1 k] 0 ⟨#[]⟩ (ta : Int)) s3))) (Y := (fun s1 m => if s1.is lb then Out.go (rd m (.inner lb rb) d s1) fun a s2 => need eqs s2 fun s3 => needEx m d s3 fun b s4 => need semi s4 fun s5 => some (lay (En 14 [hd1 a, b] 0 X (s1.tok.place : Int)) s5) else need eqs s1 fun s2 => needEx m d s2 fun a s3 => need semi s3 fun s4 => some (lay (En 13 [a] 0 X (ta : Int)) s4))) HS.out HB.out (Does.go (G := fun k s2 m => need semi s2 fun s3 => some (lay (En 22 [k] 0 ⟨#[]⟩ (ta : Int)) s3)) HDI.out (by rw [← HK.out]; exact HD2.out))), HC2.out, fun n m h => HL2.out n m h⟩
      · have HB3 := hidden hb
        clear hb
        go_wp2_with fail
        refine (any_fail 8 tb (by decide) HQ.out.any).mono ?_
        rintro en w7 ⟨⟨x, rfl⟩, ha, hf⟩
        replace HQ := hidden (HQ.out.step ha hf rfl)
        clear ha hf hp
        go_wp2_with fail
        go_ret
        have hw0 := HW0.out
        have hR0 := HR0.out
        subst hw0 hR0
        obtain ⟨f1, hf1⟩ : ∃ f1, failO 8 tb (nameO o) = .error f1 := by cases nameO o with | ok s => exact ⟨_, rfl⟩ | error f => exact ⟨_, rfl⟩
        have hQ := HQ.out.any
        rw [hf1] at hQ
        refine ⟨.error f1, { R0 with Z := R0.Z }, Does.name (G := fun X A s1 m => if s1.is lp then Out.go (rd m (.call X A) d s1) fun k s2 => need semi s2 fun s3 => some (lay (En 22 [hd1 k] 0 ⟨#[]⟩ A) s3) else if s1.is lb then Out.go (rd m (.inner lb rb) d s1) fun a s2 => need eqs s2 fun s3 => needEx m d s3 fun b s4 => need semi s4 fun s5 => some (lay (En 14 [hd1 a, b] 0 X s1.tok.place) s5) else need eqs s1 fun s2 => needEx m d s2 fun a s3 => need semi s3 fun s4 => some (lay (En 13 [a] 0 X A) s4)) HTA.out ?_, ⟨HQ.out.fr.right _, rfl, rfl, hQ.less _ HQ.out.z0⟩, fun n m h => Lim.err⟩
        rw [← HX.out]
        refine Does.ite_no (X := (fun s1 m => Out.go (rd m (.call X ta) d s1) fun k s2 => need semi s2 fun s3 => some (lay (En 22 [hd1 k] 0 ⟨#[]⟩ (ta : Int)) s3))) (Y := (fun s1 m => if s1.is lb then Out.go (rd m (.inner lb rb) d s1) fun a s2 => need eqs s2 fun s3 => needEx m d s3 fun b s4 => need semi s4 fun s5 => some (lay (En 14 [hd1 a, b] 0 X (s1.tok.place : Int)) s5) else need eqs s1 fun s2 => needEx m d s2 fun a s3 => need semi s3 fun s4 => some (lay (En 13 [a] 0 X (ta : Int)) s4))) HB3.out (Does.ite_no (X := (fun s1 m => Out.go (rd m (.inner lb rb) d s1) fun a s2 => need eqs s2 fun s3 => needEx m d s3 fun b s4 => need semi s4 fun s5 => some (lay (En 14 [hd1 a, b] 0 X (s1.tok.place : Int)) s5))) (Y := (fun s1 m => need eqs s1 fun s2 => needEx m d s2 fun a s3 => need semi s3 fun s4 => some (lay (En 13 [a] 0 X (ta : Int)) s4))) HB2.out ?_)
        refine Does.need (b := eqs) (G := fun s2 m => needEx m d s2 fun a s3 => need semi s3 fun s4 => some (lay (En 13 [a] 0 X (ta : Int)) s4)) ?_
        have hno : needO eqs (nameO o) = .error f1 := by
          rw [← hf1]
          cases hno : nameO o with
          | error f => rfl
          | ok s => rw [needO_no (HB1.out s hno), ← (HTB.out s hno).2]; rfl
        rw [hno]
        exact rfl
end Go.Proofs.YtagacfcpepoaoaaGreatDoor
