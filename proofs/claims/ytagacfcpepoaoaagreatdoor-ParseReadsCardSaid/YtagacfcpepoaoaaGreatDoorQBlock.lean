/- QuoteSt, QuoteBlock, in one text. -/
import Derived.Test.YtagacfcpepoaoaaGreatDoorQStmt
import Derived.Test.YtagacfcpepoaoaaGreatDoorParseBlock
namespace Go.Proofs.YtagacfcpepoaoaaGreatDoor
open Go.RowKit
set_option linter.unusedVariables false

variable {B g M : Nat} {L : List Tk} {w0 w w' : World} {R0 R R' : Bx} {d d' : Nat} {o o' o1 : Except Flt PS} {acc : List Int}
def callF (nm : ByteArray) (a d : Nat) : PS → Nat → Option Out := fun s1 n => Out.go (rd n (.call nm a) d s1) fun k s2 => need semi s2 fun s3 => some (lay (En 22 [hd1 k] 0 ⟨#[]⟩ (a : Int)) s3)
def cellF (nm : ByteArray) (d : Nat) : PS → Nat → Option Out := fun s1 n => Out.go (rd n (.inner lb rb) d s1) fun a s2 => need eqs s2 fun s3 => needEx n d s3 fun b s4 => need semi s4 fun s5 => some (lay (En 14 [hd1 a, b] 0 nm (s1.tok.place : Int)) s5)
def setF (nm : ByteArray) (a d : Nat) : PS → Nat → Option Out := fun s1 n => need eqs s1 fun s2 => needEx n d s2 fun b s3 => need semi s3 fun s4 => some (lay (En 13 [b] 0 nm (a : Int)) s4)
def namedF (d : Nat) : PS → Nat → Option Out := fun s n => needName s fun nm at_ s1 => if s1.is lp then callF nm at_ d s1 n else if s1.is lb then cellF nm d s1 n else setF nm at_ d s1 n
theorem Does.named (h0 : ∀ s, o = .ok s → stAt s.tok = 0) {u : Out} (h : Does o (namedF d) u) : Does o (fun s n => Go.Proofs.YtagacfcpepoaoaaGreatDoor.prd n .stmt d s) u := Does.st (F := namedF d) (fun s hs v hv => PReads.named (h0 s hs) hv) h
set_option maxRecDepth 100000 in
set_option maxHeartbeats 20000000 in
theorem qstmt_of (hB : ∀ m, m < M → QBlockC B g L m) (H : QAny B g L w R d o) (hd : d ≤ 200) (hl : Lim o L.length M) : Calls Tryz.prog 52 #[.pointer (some ⟨g, 0, none⟩)] w (QDone B g L w R d o (fun s n => prd n .stmt d s)) := by
  have HS := hidden (QRun.start H)
  have HDD := hidden hd
  have HL := hidden hl
  have HB := hidden hB
  clear hB
  have hfd := field_at
  clear H hd hl
  go_enter Tryz.func52, Tryz.ntmps52
  go_wp2_with fail
  obtain ⟨tk, tn, ta, tx, hta, hcall⟩ := q_now' HS.out.any
  have HTN := hidden hta
  have HTA : Hid (∀ s, o = .ok s → ta = s.tok.place) := fun s hs => (HTN.out s hs).2.2.1
  clear hta hcall HTN
  obtain ⟨W1, hW1⟩ : ∃ W1, W1 = w.alloc (.cells #[.string ⟨#[118, 97, 114]⟩, .string ⟨#[102, 111, 114]⟩, .string ⟨#[98, 114, 101, 97, 107]⟩, .string ⟨#[99, 111, 110, 116, 105, 110, 117, 101]⟩, .string ⟨#[114, 101, 116, 117, 114, 110]⟩, .string ⟨#[112, 114, 105, 110, 116]⟩, .string ⟨#[119, 104, 105, 108, 101]⟩, .string ⟨#[105, 102]⟩] 9) := ⟨_, rfl⟩
  obtain ⟨b1, hb1⟩ : ∃ b1, b1 = w.heap.size := ⟨_, rfl⟩
  have HBK : Hid (Held W1 b1 9 (strsOf stWords)) := by rw [hW1, hb1]; exact Held.new _ _ _
  replace HS := hidden (HS.out.below (show Below w.heap.size w W1 by rw [hW1]; exact (Below.refl _ _).alloc (Nat.le_refl _) _))
  obtain ⟨tk, tn, ta, tx, hta, hcall⟩ := q_now' HS.out.any
  have HTN := hidden hta
  replace HTA : Hid (∀ s, o = .ok s → ta = s.tok.place) := fun s hs => (HTN.out s hs).2.2.1
  have HC := hidden hcall
  clear hta hcall HTN
  rw [← hW1, ← hb1]
  clear hW1 hb1
  refine HC.out.mono ?_
  rintro en w1 ⟨rfl, hb⟩
  replace HS := hidden (HS.out.below hb)
  replace HBK := hidden (HBK.out.since hb)
  clear hb HC
  go_wp2_with fail
  go_loopw [5] (fun t5 wr => ∃ (i : Nat) (R1 : Bx), i ≤ 8 ∧ t5 = .int .i64 (i : Int) ∧ Hid (QRun B g L w R d wr R1 o) ∧ Hid (Held wr b1 9 (strsOf stWords)) ∧ Hid (∀ s, o = .ok s → ∀ j, j < i → s.is (stWords.getD j []) = false)) (fun t5 _ => 8 - (intOf t5).toNat)
  case atStart => exact ⟨0, _, by omega, rfl, HS, HBK, fun s hs j hj => absurd hj (by omega)⟩
  case round =>
    clear HS HBK
    obtain ⟨i, R1, hi, rfl, HS, HBK, HNO⟩ := hrel
    by_cases hlt : i < 8
    · have hlti : (i : Int) < 8 := by omega
      have c0 := strsOf_at HBK.out (i := i) (by show i < 8; exact hlt)
      obtain ⟨c, hc⟩ : ∃ c, c = stWords.getD i [] := ⟨_, rfl⟩
      rw [← hc] at c0
      have HCC := hidden hc
      clear hc
      go_wp2_with fail
      refine (q_eats c HS.out.any).mono ?_
      rintro en w2 ⟨x, oe, rfl, ha, hf, hc⟩
      replace HBK := hidden (HS.out.any.held hf HBK.out (by decide) (by decide) (HS.out.any.vn_ne HBK.out (by decide)))
      replace c0 := strsOf_at HBK.out (i := i) (by show i < 8; exact hlt)
      rw [← HCC.out] at c0
      rcases hc with ⟨rfl, s, hs, hb, ho⟩ | ⟨rfl, ho, hb⟩
      · subst ho
        subst hs
        replace HS := hidden (HS.out.step ha hf (fun _ h => h))
        have HBB := hidden hb
        obtain ⟨hM, hN, hl1⟩ := HL.out.next_lt hb
        have HL1 := hidden hl1
        have HM := hidden hM
        have HLT := hidden hlt
        clear ha hf hb hl1 hM hN
        go_wp2_with fail
        rw [HCC.out]
        refine (qword_all (M := M - 1) ta i HLT.out (HB.out (M - 1) (by have := HM.out; omega)) HS.out.any HDD.out (HL1.out.mono (by omega) (Nat.le_refl _))).mono ?_
        rintro en w3 ⟨u, R3, hdo, hgot⟩
        obtain rfl := hgot.en
        have HDO := hidden hdo
        have HGOT := hidden hgot
        clear hdo hgot
        go_wp2_with fail
        go_ret
        refine ⟨u, R3, Does.word HLT.out (by rw [← HCC.out]; exact HBB.out) ?_, ⟨HS.out.then_ HGOT.out.run, rfl, HGOT.out.tell.back Grow.next⟩⟩
        rw [← HTA.out s rfl]
        exact HDO.out
      · rw [ho] at ha
        replace HS := hidden (HS.out.step ha hf (fun _ h => h))
        have HBB := hidden hb
        clear ha hf hb ho
        go_wp2_with fail
        go_roundw
        case rel =>
          refine ⟨i + 1, R1, by omega, by go_num, HS, HBK, fun s hs j hj => ?_⟩
          rcases Nat.lt_or_ge j i with h1 | h1
          · exact HNO.out s hs j h1
          · rw [show j = i by omega, ← HCC.out]; exact HBB.out s hs
        case measure => simp [intOf]; omega
    · have hlti : ¬ (i : Int) < 8 := by omega
      have HST : Hid (∀ s, o = .ok s → stAt s.tok = 0) := fun s hs => st_none' fun j hj => HNO.out s hs j (by omega)
      clear hlt hi HNO HBK
      go_wp2_with fail
      have HGA : Hid (Grow o o) := Grow.refl _
      refine (q_name HS.out.any).mono ?_
      rintro en wn1 ⟨tb, rfl, hta, ha, hf⟩
      replace HS := hidden (HS.out.step ha hf (fun _ h => h))
      obtain ⟨X, hX⟩ : ∃ X, X = nmO o := ⟨_, rfl⟩
      rw [← hX]
      have HXX := hidden hX
      clear ha hf hta hX
      obtain ⟨p1, hp1⟩ : ∃ p1, p1 = nameO o := ⟨_, rfl⟩
      rw [← hp1] at HS
      have HO1 := hidden hp1
      have HL1 : Hid (Lim p1 L.length M) := by rw [hp1]; exact Lim.name_le HL.out
      have HG1 : Hid (Grow o p1) := by rw [hp1]; exact Grow.name
      replace HGA := hidden (HGA.out.trans HG1.out)
      clear hp1

      go_wp2_with fail
      refine (q_sees lp HS.out.any).mono ?_
      rintro en w4 ⟨cc, rfl, hb, hc⟩
      replace HS := hidden (HS.out.below hb)
      clear hb
      rcases hc with ⟨rfl, s, hs, hb⟩ | ⟨rfl, hb⟩
      · have HSS := hidden hs
        have HBB := hidden hb
        clear hs hb
        go_wp2_with fail
        refine (qcall_of (M := M) X ta (fun m _ => (q_all B g L m).2) HS.out.any (fun _ _ => HDD.out) (by have := HDD.out; omega) HL1.out HL1.out.self).mono ?_
        rintro en wc2 ⟨va, Rc2, hdo, hgot⟩
        obtain rfl := hgot.en
        replace HS := hidden (HS.out.then_ hgot.run)
        have HDa := hidden hdo
        have HTa := hidden hgot.tell
        obtain ⟨a, hk⟩ : ∃ a, a = kidO va := ⟨_, rfl⟩
        rw [← hk]
        have HKa := hidden hk
        clear hdo hgot hk
        obtain ⟨p2, hp2⟩ : ∃ p2, p2 = toO va := ⟨_, rfl⟩
        rw [← hp2] at HS
        have HO2 := hidden hp2
        have HL2 : Hid (Lim p2 L.length M) := by rw [hp2]; exact Does.left_rd HDa.out _ _ HL1.out
        have HG2 : Hid (Grow p1 p2) := by rw [hp2]; exact HTa.out.grow
        replace HGA := hidden (HGA.out.trans HG2.out)
        clear hp2
        have HIa : Hid (KidIn p2 a) := by rw [HKa.out, HO2.out]; exact HTa.out.kidIn
        go_wp2_with fail
        refine (q_must semi HS.out.any).mono ?_
        rintro en wm3 ⟨⟨xwm3, rfl⟩, ha, hf⟩
        replace HS := hidden (HS.out.step ha hf (fun _ h => h))
        clear ha hf
        obtain ⟨p3, hp3⟩ : ∃ p3, p3 = needO semi p2 := ⟨_, rfl⟩
        rw [← hp3] at HS
        have HO3 := hidden hp3
        have HL3 : Hid (Lim p3 L.length M) := by rw [hp3]; exact Lim.need_le HL2.out
        have HG3 : Hid (Grow p2 p3) := by rw [hp3]; exact Grow.need _
        replace HGA := hidden (HGA.out.trans HG3.out)
        clear hp3
        replace HIa := hidden (HIa.out.grow HG3.out)
        go_wp2_with fail
        refine (lay_new 22 [a] 0 ⟨#[]⟩ ta #[.int .i64 a] rfl 1 rfl HS.out.any (fun j hj => by
              simp only [List.mem_cons, List.not_mem_nil, or_false] at hj
              subst hj
              exact HIa.out) (HL3.out.self) (by simp)).mono ?_
        rintro en wz ⟨u, Rz, hdu, hgot, _⟩
        obtain rfl := hgot.en
        have HDU := hidden hdu
        have HGOT := hidden hgot
        clear hdu hgot
        go_wp2_with fail
        go_ret
        refine ⟨u, Rz, ?_, ⟨HS.out.then_ HGOT.out.run, rfl, HGOT.out.tell.back HGA.out⟩⟩
        refine Does.named HST.out ?_
        refine Does.name HTA.out ?_
        rw [← HXX.out, ← HO1.out]
        refine Does.ite_at (X := callF X ta d) (Y := fun s1 n => if s1.is lb then cellF X d s1 n else setF X ta d s1 n) HSS.out HBB.out ?_
        rw [← HSS.out]
        refine Does.go (G := fun k s2 _ => need semi s2 fun s3 => some (lay (En 22 [k] 0 ⟨#[]⟩ (ta : Int)) s3)) HDa.out ?_
        rw [← HO2.out, ← HKa.out]
        refine Does.need (b := semi) ?_
        rw [← HO3.out]
        exact HDU.out
      · have HNP := hidden hb
        clear hb
        go_wp2_with fail
        refine (q_sees lb HS.out.any).mono ?_
        rintro en w5 ⟨cc, rfl, hb, hc⟩
        replace HS := hidden (HS.out.below hb)
        clear hb
        rcases hc with ⟨rfl, s, hs, hb⟩ | ⟨rfl, hb⟩
        · have HSS := hidden hs
          have HBB := hidden hb
          clear hs hb
          obtain ⟨tk2, tn2, tc, tx2, hta2, hcall2⟩ := q_now' HS.out.any
          have HTC : Hid (tc = s.tok.place) := (hta2 s HSS.out).2.2.1
          have HC2 := hidden hcall2
          clear hta2 hcall2
          go_wp2_with fail
          refine HC2.out.mono ?_
          rintro en w6 ⟨rfl, hb⟩
          replace HS := hidden (HS.out.below hb)
          clear hb HC2
          go_wp2_with fail
          refine (qsquare_of (M := M) (fun m _ => (q_all B g L m).2) HS.out.any (fun _ _ => HDD.out) HL1.out).mono ?_
          rintro en wc2 ⟨va, Rc2, hdo, hgot⟩
          obtain rfl := hgot.en
          replace HS := hidden (HS.out.then_ hgot.run)
          have HDa := hidden hdo
          have HTa := hidden hgot.tell
          obtain ⟨a, hk⟩ : ∃ a, a = kidO va := ⟨_, rfl⟩
          rw [← hk]
          have HKa := hidden hk
          clear hdo hgot hk
          obtain ⟨p2, hp2⟩ : ∃ p2, p2 = toO va := ⟨_, rfl⟩
          rw [← hp2] at HS
          have HO2 := hidden hp2
          have HL2 : Hid (Lim p2 L.length M) := by rw [hp2]; exact Does.left_rd HDa.out _ _ HL1.out
          have HG2 : Hid (Grow p1 p2) := by rw [hp2]; exact HTa.out.grow
          replace HGA := hidden (HGA.out.trans HG2.out)
          clear hp2
          have HIa : Hid (KidIn p2 a) := by rw [HKa.out, HO2.out]; exact HTa.out.kidIn
          go_wp2_with fail
          refine (q_must eqs HS.out.any).mono ?_
          rintro en wm3 ⟨⟨xwm3, rfl⟩, ha, hf⟩
          replace HS := hidden (HS.out.step ha hf (fun _ h => h))
          clear ha hf
          obtain ⟨p3, hp3⟩ : ∃ p3, p3 = needO eqs p2 := ⟨_, rfl⟩
          rw [← hp3] at HS
          have HO3 := hidden hp3
          have HL3 : Hid (Lim p3 L.length M) := by rw [hp3]; exact Lim.need_le HL2.out
          have HG3 : Hid (Grow p2 p3) := by rw [hp3]; exact Grow.need _
          replace HGA := hidden (HGA.out.trans HG3.out)
          clear hp3
          replace HIa := hidden (HIa.out.grow HG3.out)
          go_wp2_with fail
          refine (q_expr HS.out.any (fun _ _ => HDD.out) HL3.out).mono ?_
          rintro en wc4 ⟨vb, Rc4, hdo, hgot⟩
          obtain rfl := hgot.en
          replace HS := hidden (HS.out.then_ hgot.run)
          have HDb := hidden hdo
          have HTb := hidden hgot.tell
          obtain ⟨b, hk⟩ : ∃ b, b = kidO vb := ⟨_, rfl⟩
          rw [← hk]
          have HKb := hidden hk
          clear hdo hgot hk
          obtain ⟨p4, hp4⟩ : ∃ p4, p4 = toO vb := ⟨_, rfl⟩
          rw [← hp4] at HS
          have HO4 := hidden hp4
          have HL4 : Hid (Lim p4 L.length M) := by rw [hp4]; exact Does.left_rd HDb.out _ _ HL3.out
          have HG4 : Hid (Grow p3 p4) := by rw [hp4]; exact HTb.out.grow
          replace HGA := hidden (HGA.out.trans HG4.out)
          clear hp4
          replace HIa := hidden (HIa.out.grow HG4.out)
          have HIb : Hid (KidIn p4 b) := by rw [HKb.out, HO4.out]; exact HTb.out.kidIn
          go_wp2_with fail
          refine (q_must semi HS.out.any).mono ?_
          rintro en wm5 ⟨⟨xwm5, rfl⟩, ha, hf⟩
          replace HS := hidden (HS.out.step ha hf (fun _ h => h))
          clear ha hf
          obtain ⟨p5, hp5⟩ : ∃ p5, p5 = needO semi p4 := ⟨_, rfl⟩
          rw [← hp5] at HS
          have HO5 := hidden hp5
          have HL5 : Hid (Lim p5 L.length M) := by rw [hp5]; exact Lim.need_le HL4.out
          have HG5 : Hid (Grow p4 p5) := by rw [hp5]; exact Grow.need _
          replace HGA := hidden (HGA.out.trans HG5.out)
          clear hp5
          replace HIa := hidden (HIa.out.grow HG5.out)
          replace HIb := hidden (HIb.out.grow HG5.out)
          go_wp2_with fail
          refine (lay_new 14 [a, b] 0 X tc #[.int .i64 a, .int .i64 b] rfl 2 rfl HS.out.any (fun j hj => by
                simp only [List.mem_cons, List.not_mem_nil, or_false] at hj
                rcases hj with rfl | rfl
                · exact HIa.out
                · exact HIb.out) (HL5.out.self) (by simp)).mono ?_
          rintro en wz ⟨u, Rz, hdu, hgot, _⟩
          obtain rfl := hgot.en
          have HDU := hidden hdu
          have HGOT := hidden hgot
          clear hdu hgot
          go_wp2_with fail
          go_ret
          refine ⟨u, Rz, ?_, ⟨HS.out.then_ HGOT.out.run, rfl, HGOT.out.tell.back HGA.out⟩⟩
          refine Does.named HST.out ?_
          refine Does.name HTA.out ?_
          rw [← HXX.out, ← HO1.out]
          refine Does.ite_no (X := callF X ta d) (Y := fun s1 n => if s1.is lb then cellF X d s1 n else setF X ta d s1 n) HNP.out ?_
          refine Does.ite_at (X := cellF X d) (Y := setF X ta d) HSS.out HBB.out ?_
          refine (show Does (.ok s) (fun s1 n => Out.go (rd n (.inner lb rb) d s1) fun a s2 => need eqs s2 fun s3 => needEx n d s3 fun b s4 => need semi s4 fun s5 => some (lay (En 14 [hd1 a, b] 0 X (s.tok.place : Int)) s5)) u from ?_)
          rw [← HSS.out, ← HTC.out]
          refine Does.go (G := fun k s2 n => need eqs s2 fun s3 => needEx n d s3 fun b s4 => need semi s4 fun s5 => some (lay (En 14 [k, b] 0 X (tc : Int)) s5)) HDa.out ?_
          rw [← HO2.out, ← HKa.out]
          refine Does.need (b := eqs) ?_
          rw [← HO3.out]
          refine Does.ex HDb.out ?_
          rw [← HO4.out, ← HKb.out]
          refine Does.need (b := semi) ?_
          rw [← HO5.out]
          exact HDU.out
        · have HNB := hidden hb
          clear hb
          go_wp2_with fail
          refine (q_must eqs HS.out.any).mono ?_
          rintro en wm2 ⟨⟨xwm2, rfl⟩, ha, hf⟩
          replace HS := hidden (HS.out.step ha hf (fun _ h => h))
          clear ha hf
          obtain ⟨p2, hp2⟩ : ∃ p2, p2 = needO eqs p1 := ⟨_, rfl⟩
          rw [← hp2] at HS
          have HO2 := hidden hp2
          have HL2 : Hid (Lim p2 L.length M) := by rw [hp2]; exact Lim.need_le HL1.out
          have HG2 : Hid (Grow p1 p2) := by rw [hp2]; exact Grow.need _
          replace HGA := hidden (HGA.out.trans HG2.out)
          clear hp2
          go_wp2_with fail
          refine (q_expr HS.out.any (fun _ _ => HDD.out) HL2.out).mono ?_
          rintro en wc3 ⟨va, Rc3, hdo, hgot⟩
          obtain rfl := hgot.en
          replace HS := hidden (HS.out.then_ hgot.run)
          have HDa := hidden hdo
          have HTa := hidden hgot.tell
          obtain ⟨a, hk⟩ : ∃ a, a = kidO va := ⟨_, rfl⟩
          rw [← hk]
          have HKa := hidden hk
          clear hdo hgot hk
          obtain ⟨p3, hp3⟩ : ∃ p3, p3 = toO va := ⟨_, rfl⟩
          rw [← hp3] at HS
          have HO3 := hidden hp3
          have HL3 : Hid (Lim p3 L.length M) := by rw [hp3]; exact Does.left_rd HDa.out _ _ HL2.out
          have HG3 : Hid (Grow p2 p3) := by rw [hp3]; exact HTa.out.grow
          replace HGA := hidden (HGA.out.trans HG3.out)
          clear hp3
          have HIa : Hid (KidIn p3 a) := by rw [HKa.out, HO3.out]; exact HTa.out.kidIn
          go_wp2_with fail
          refine (q_must semi HS.out.any).mono ?_
          rintro en wm4 ⟨⟨xwm4, rfl⟩, ha, hf⟩
          replace HS := hidden (HS.out.step ha hf (fun _ h => h))
          clear ha hf
          obtain ⟨p4, hp4⟩ : ∃ p4, p4 = needO semi p3 := ⟨_, rfl⟩
          rw [← hp4] at HS
          have HO4 := hidden hp4
          have HL4 : Hid (Lim p4 L.length M) := by rw [hp4]; exact Lim.need_le HL3.out
          have HG4 : Hid (Grow p3 p4) := by rw [hp4]; exact Grow.need _
          replace HGA := hidden (HGA.out.trans HG4.out)
          clear hp4
          replace HIa := hidden (HIa.out.grow HG4.out)
          go_wp2_with fail
          refine (lay_new 13 [a] 0 X ta #[.int .i64 a] rfl 1 rfl HS.out.any (fun j hj => by
                simp only [List.mem_cons, List.not_mem_nil, or_false] at hj
                subst hj
                exact HIa.out) (HL4.out.self) (by simp)).mono ?_
          rintro en wz ⟨u, Rz, hdu, hgot, _⟩
          obtain rfl := hgot.en
          have HDU := hidden hdu
          have HGOT := hidden hgot
          clear hdu hgot
          go_wp2_with fail
          go_ret
          refine ⟨u, Rz, ?_, ⟨HS.out.then_ HGOT.out.run, rfl, HGOT.out.tell.back HGA.out⟩⟩
          refine Does.named HST.out ?_
          refine Does.name HTA.out ?_
          rw [← HXX.out, ← HO1.out]
          refine Does.ite_no (X := callF X ta d) (Y := fun s1 n => if s1.is lb then cellF X d s1 n else setF X ta d s1 n) HNP.out ?_
          refine Does.ite_no (X := cellF X d) (Y := setF X ta d) HNB.out ?_
          rw [show setF X ta d = fun s1 n => need eqs s1 fun s2 => needEx n d s2 fun b s3 => need semi s3 fun s4 => some (lay (En 13 [b] 0 X (ta : Int)) s4) from rfl]
          refine Does.need (b := eqs) ?_
          rw [← HO2.out]
          refine Does.ex HDa.out ?_
          rw [← HO3.out, ← HKa.out]
          refine Does.need (b := semi) ?_
          rw [← HO4.out]
          exact HDU.out
end Go.Proofs.YtagacfcpepoaoaaGreatDoor

namespace Go.Proofs.YtagacfcpepoaoaaGreatDoor
open Go.RowKit
set_option linter.unusedVariables false

variable {B g M : Nat} {L : List Tk} {w0 w w' : World} {R0 R R' : Bx} {d d' : Nat} {o o' o1 : Except Flt PS} {acc : List Int}
theorem Does.stmts_step {s : PS} {ta : Nat} {v u : Out} (hb : s.is rc = false) (h1 : Does (.ok s) (fun s n => Go.Proofs.YtagacfcpepoaoaaGreatDoor.prd n .stmt d s) v) (h2 : Does (toO v) (fun s n => Go.Proofs.YtagacfcpepoaoaaGreatDoor.prd n (.stmts (acc ++ [kidO v]) ta) d s) u) : Does (.ok s) (fun s n => Go.Proofs.YtagacfcpepoaoaaGreatDoor.prd n (.stmts acc ta) d s) u := by
  refine Does.prd (F := fun s n => Out.go (Go.Proofs.YtagacfcpepoaoaaGreatDoor.prd n .stmt d s) fun k s1 => Go.Proofs.YtagacfcpepoaoaaGreatDoor.prd n (.stmts (acc ++ [hd1 k]) ta) d s1) (fun s' hs n => ?_) (Does.go (G := fun k s1 n => Go.Proofs.YtagacfcpepoaoaaGreatDoor.prd n (.stmts (acc ++ [k]) ta) d s1) h1 h2)
  injection hs with hs
  subst hs
  rw [Go.Proofs.YtagacfcpepoaoaaGreatDoor.prd, hb]
  rfl
/-- tokens that are left -/
def RL (r0 : Nat) (v : Out) : Prop := ∀ l s', v = .ok (l, s') → s'.r.length ≤ r0
section
variable {s : PS} {r0 n : Nat} {v : Out} {b : List UInt8}
theorem rl_err {e : Flt} : RL r0 (.error e) := fun l s' h => by cases h
theorem rl_lay {x : Nd} (h : s.r.length ≤ r0) (g : some (lay x s) = some v) : RL r0 v := by
  injection g with g
  intro l s' e
  rw [e] at g
  rw [(lay_slack g).2.1]
  exact h
theorem rl_need {f : PS → Option Out} (h0 : s.r.length ≤ r0) (h : need b s f = some v) (g : s.next.r.length ≤ r0 → f s.next = some v → RL r0 v) : RL r0 v := by
  rcases Go.Proofs.YtagacfcpepoaoaaGreatDoor.need_ok h with ⟨h1, h2⟩ | ⟨_, rfl⟩
  · exact g (by have := slack_is h1; omega) h2
  · exact rl_err
theorem rl_name {f : ByteArray → Nat → PS → Option Out} (h0 : s.r.length ≤ r0) (h : needName s f = some v) (g : ∀ nm a, s.next.r.length + 1 = s.r.length → f nm a s.next = some v → RL r0 v) : RL r0 v := by
  rcases needName_ok h with ⟨h1, h2⟩ | ⟨_, rfl⟩
  · exact g _ _ (slack_kind (by omega)) h2
  · exact rl_err
theorem rl_rd {m : Md} {f : List Int → PS → Option Out} (h0 : s.r.length ≤ r0) (h : Out.go (rd n m d s) f = some v) (g : ∀ p s1, s1.r.length ≤ r0 → f p s1 = some v → RL r0 v) : RL r0 v := by
  rcases go_ok h with ⟨e, h1, rfl⟩ | ⟨p, s1, h1, h2⟩
  · exact rl_err
  · obtain ⟨a, b, c⟩ := rd_slack n m d s _ h1 p s1 rfl
    exact g p s1 (by omega) h2
theorem rl_ex {f : Int → PS → Option Out} (h0 : s.r.length ≤ r0) (h : needEx n d s f = some v) (g : ∀ p s1, s1.r.length ≤ r0 → f p s1 = some v → RL r0 v) : RL r0 v := rl_rd h0 h (fun p s1 h1 h2 => g _ s1 h1 h2)
theorem rl_block {f : List Int → PS → Option Out} (h0 : s.r.length ≤ r0) (h : Out.go (prd n .block d s) f = some v) (g : ∀ p s1, s1.r.length ≤ r0 → f p s1 = some v → RL r0 v) : RL r0 v := by
  rcases go_ok h with ⟨e, h1, rfl⟩ | ⟨p, s1, h1, h2⟩
  · exact rl_err
  · have := (prd_left n _ _ _ _ (fun _ e => by cases e) h1 p s1 rfl).toks
    exact g p s1 (by omega) h2
theorem stmt_less (h : prd n .stmt d s = some v) : RL (s.r.length - 1) v := by
  cases n with
  | zero => cases h
  | succ n =>
    have hnx : stAt s.tok ≠ 0 → s.next.r.length ≤ s.r.length - 1 := fun h0 => by have := slack_kind (stAt_pos h0); omega
    rw [prd] at h
    split at h
    · rename_i hg; exact rl_name (hnx (by rw [hg]; decide)) h fun nm a h1 h => rl_need (by have := hnx (by rw [hg]; decide); omega) h fun h1 h => rl_ex h1 h fun x s1 h1 h => rl_need h1 h fun h1 h => rl_lay h1 h
    · rename_i hg; exact rl_name (hnx (by rw [hg]; decide)) h fun nm a h1 h => rl_need (by have := hnx (by rw [hg]; decide); omega) h fun h1 h => rl_ex h1 h fun x s1 h1 h => rl_need h1 h fun h1 h => rl_ex h1 h fun y s2 h1 h => rl_block h1 h fun z s3 h1 h => rl_lay h1 h
    · rename_i hg; exact rl_need (hnx (by rw [hg]; decide)) h fun h1 h => rl_lay h1 h
    · rename_i hg; exact rl_need (hnx (by rw [hg]; decide)) h fun h1 h => rl_lay h1 h
    · rename_i hg; exact rl_ex (hnx (by rw [hg]; decide)) h fun x s1 h1 h => rl_need h1 h fun h1 h => rl_lay h1 h
    · rename_i hg; exact rl_ex (hnx (by rw [hg]; decide)) h fun x s1 h1 h => rl_need h1 h fun h1 h => rl_lay h1 h
    · rename_i hg; exact rl_ex (hnx (by rw [hg]; decide)) h fun x s1 h1 h => rl_block h1 h fun z s2 h1 h => rl_lay h1 h
    · rename_i hg
      refine rl_ex (hnx (by rw [hg]; decide)) h fun x s1 h1 h => rl_block h1 h fun z s2 h1 h => ?_
      split at h
      · rename_i g; exact rl_block (by have := slack_is g; omega) h fun z s2 h1 h => rl_lay h1 h
      · exact rl_lay h1 h
    · rcases needName_ok h with ⟨h1, h⟩ | ⟨_, rfl⟩
      · have h2 := slack_kind (s := s) (by omega)
        have h3 : s.next.r.length ≤ s.r.length - 1 := by omega
        split at h
        · exact rl_rd h3 h fun p s1 h1 h => rl_need h1 h fun h1 h => rl_lay h1 h
        · split at h
          · exact rl_rd h3 h fun p s1 h1 h => rl_need h1 h fun h1 h => rl_ex h1 h fun x s1 h1 h => rl_need h1 h fun h1 h => rl_lay h1 h
          · exact rl_need h3 h fun h1 h => rl_ex h1 h fun x s1 h1 h => rl_need h1 h fun h1 h => rl_lay h1 h
      · exact rl_err
end
theorem Does.left_stmt {s : PS} {v : Out} (h : Does (.ok s) (fun s n => Go.Proofs.YtagacfcpepoaoaaGreatDoor.prd n .stmt d s) v) : ∀ s', toO v = .ok s' → s'.r.length ≤ s.r.length - 1 := by
  obtain ⟨n, hn⟩ := h
  have h1 := stmt_less (hn n (Nat.le_refl _))
  intro s' e
  match v, h1, e with
  | .ok (l, s1), h1, e => injection e with e; subst e; exact h1 l s1 rfl
/-- a block's statements, on the way -/
def QBlk (B g : Nat) (L : List Tk) (M : Nat) (w0 : World) (R0 : Bx) (d : Nat) (o : Except Flt PS) (ta : Nat) (t4 : Value) (wr : World) : Prop :=
  ∃ (o1 : Except Flt PS) (R1 : Bx) (acc : List Int), QPre B g L w0 R0 (d + 1) wr R1 o1 t4 acc ∧ Lim o1 (L.length - 1) (M - 1) ∧ Grow o o1 ∧ acc.length ≤ 100000 ∧ (∀ s, o1 = .ok s → acc.length + s.r.length ≤ L.length ∧ d < 200) ∧
    ∀ u, Does o1 (fun s n => prd n (.stmts acc ta) (d + 1) s) u → Does o (fun s n => prd n .block d s) u
theorem QAny.len (H : QAny B g L w R d o) : ∀ s, o = .ok s → 1 ≤ s.r.length := fun s hs => by subst hs; exact QGood.some H
/- the walk -/
set_option maxRecDepth 100000 in
set_option maxHeartbeats 20000000 in
theorem qblock_of (hS : QStmtC B g L (M - 1)) (H : QAny B g L w R d o) (hd : d ≤ 200) (hl : Lim o L.length M) : Calls Tryz.prog 22 #[.pointer (some ⟨g, 0, none⟩)] w (QDone B g L w R d o (fun s n => prd n .block d s)) := by
  have HS := hidden ((QRun.start H).pre H)
  have HST := hidden hS
  have HDD := hidden hd
  have HL := hidden hl
  have HBO : Hid (B ≤ w.heap.size) := H.old
  have HMANY := hidden H.many
  have hfd := field_at
  obtain ⟨tk, tn, ta, tx, hta, hcall⟩ := q_now' H
  have HTA : Hid (∀ s, o = .ok s → ta = s.tok.place) := fun s hs => (hta s hs).2.2.1
  have HC := hidden hcall
  clear H hS hd hl hta hcall
  go_enter Tryz.func22, Tryz.ntmps22
  rw [veil 8, veil 9]
  go_wp2_with fail
  refine HC.out.mono ?_
  rintro en w1 ⟨rfl, hb⟩
  replace HS := hidden (HS.out.below hb)
  clear hb HC
  go_wp2_with fail
  refine (q_must lc HS.out.any).mono ?_
  rintro en w2 ⟨⟨x2, rfl⟩, ha, hf⟩
  replace HS := hidden (HS.out.step ha hf (fun _ h => h) (Grow.need _))
  clear ha hf
  obtain ⟨o1, ho1⟩ : ∃ o1, o1 = needO lc o := ⟨_, rfl⟩
  rw [← ho1] at HS
  have HO1 := hidden ho1
  have HL1 : Hid (Lim o1 (L.length - 1) (M - 1)) := by rw [ho1]; exact Lim.need_less HL.out
  have HG1 : Hid (Grow o o1) := by rw [ho1]; exact Grow.need _
  clear ho1
  cases o1 with
  | error f =>
    obtain ⟨e, c5, he⟩ := q_err5 HS.out.any
    have hen : (e == 0) = false := by simpa using he
    clear he
    replace HS : Hid (QPre B g L w R (d + 1) w2 R (.error f) (.slice none 0 0) []) := ⟨⟨HS.out.any, HS.out.fr, HS.out.z⟩, HS.out.zv, HS.out.now, HS.out.kids, HS.out.base, HS.out.z00⟩
    have HDZ : Hid (Does o (fun s n => prd n .block d s) (.error f)) := Does.block_start HTA.out (by rw [← HO1.out]; rfl)
    go_wp2_with fail
    go_loopw [4] (fun t4 wr => t4 = .slice none 0 0 ∧ wr = w2) (fun _ _ => 0)
    case atStart => exact ⟨rfl, rfl⟩
    case round =>
      obtain ⟨rfl, rfl⟩ := hrel
      have HFEW : Hid (([] : List Int).length ≤ 100000) := by show _ ≤ _; simp
      go_wp2_with fail
      obtain ⟨dd, V, c2, f2, hV, ha, hf⟩ := QAny.close HS.out.any (by have := HDD.out; omega)
      obtain ⟨W, hW⟩ : ∃ W, W = wr.setCell ⟨g, 2, none⟩ (.int .i64 V) := ⟨_, rfl⟩
      rw [← hW] at ha hf
      replace HS := hidden (HS.out.step ha hf (fun _ h => h) (Grow.refl _))
      clear ha hf
      refine wp_veil ?_
      go_wp2_with fail
      rw [← hV, ← hW]
      clear hV hW c2 f2
      refine wp_veil ?_
      go_wp2_with fail
      refine (HS.out.lay 23 0 ⟨#[]⟩ ta HBO.out (Lim.err) (HFEW.out)).mono ?_
      rintro en wz ⟨u, Rz, hdu, hgot, _⟩
      obtain rfl := hgot.en
      have HDU := hidden hdu
      have HGOT := hidden hgot
      clear hdu hgot
      go_wp2_with fail
      go_ret
      have hu : u = .error f := HDU.out
      refine ⟨u, Rz, by rw [hu]; exact HDZ.out, ⟨HGOT.out.run, rfl, HGOT.out.tell.back HG1.out⟩⟩
  | ok s1 =>
    have c5 := q_ok5 HS.out.any
    go_wp2_with fail
    refine (q_opens ta HS.out.any (fun _ _ => by have := HDD.out; omega)).mono ?_
    rintro en w3 ⟨⟨x3, rfl⟩, ha, hf⟩
    replace HS := hidden (HS.out.step ha hf (fun _ h => h) (Grow.open_ _ _))
    clear ha hf c5
    have HQ : Hid (QBlk B g L M w R d o ta (.slice none 0 0) w3) := by
      refine ⟨openO d ta (.ok s1), R, [], HS.out, Lim.open_ HL1.out, HG1.out.trans (Grow.open_ _ _), by simp, fun s hs => ?_, fun u h => Does.block_start HTA.out (by rw [← HO1.out]; exact h)⟩
      obtain ⟨h1, h2⟩ := qopen_ok hs
      injection h1 with h1
      subst h1
      have h3 := (HL1.out s1 rfl).1
      refine ⟨by simp; omega, by omega⟩
    clear HS
    go_wp2_with fail
    go_loopw [4] (fun t4 wr => Hid (QBlk B g L M w R d o ta t4 wr)) (fun _ wr => qlam g L.length wr)
    case atStart => exact HQ
    case round =>
      obtain ⟨o2, R2, acc, hpre, hlim, hgr, hfew, hmany, hcont⟩ := hrel.out
      obtain ⟨la, lcp, hv⟩ := own_shape5 hpre.now
      obtain ⟨A, hA⟩ : ∃ A, A = acc.length := ⟨_, rfl⟩
      rw [← hA] at hv
      subst hv
      have HAC := hidden hA
      have HS := hidden hpre
      have HLM := hidden hlim
      have HGR := hidden hgr
      have HFEW := hidden hfew
      have HMN := hidden hmany
      have HCT := hidden hcont
      clear hrel hpre hlim hgr hfew hmany hcont hA HQ
      obtain ⟨wo, hwo⟩ : ∃ wo, wo = wr := ⟨_, rfl⟩
      have HWO := hidden hwo
      cases o2 with
      | error f =>
        obtain ⟨e, c5, he⟩ := q_err5 HS.out.any
        have hen : (e == 0) = false := by simpa using he
        clear he hwo
        go_wp2_with fail
        obtain ⟨dd, V, c2, f2, hV, ha, hf⟩ := QAny.close HS.out.any (by have := HDD.out; omega)
        obtain ⟨W, hW⟩ : ∃ W, W = wr.setCell ⟨g, 2, none⟩ (.int .i64 V) := ⟨_, rfl⟩
        rw [← hW] at ha hf
        replace HS := hidden (HS.out.step ha hf (fun _ h => h) (Grow.refl _))
        clear ha hf
        refine wp_veil ?_
        go_wp2_with fail
        rw [← hV, ← hW]
        clear hV hW c2 f2
        refine wp_veil ?_
        go_wp2_with fail
        refine (HS.out.lay 23 0 ⟨#[]⟩ ta HBO.out (Lim.err) (HFEW.out)).mono ?_
        rintro en wz ⟨u, Rz, hdu, hgot, _⟩
        obtain rfl := hgot.en
        have HDU := hidden hdu
        have HGOT := hidden hgot
        clear hdu hgot
        go_wp2_with fail
        go_ret
        have hu : u = .error f := HDU.out
        refine ⟨u, Rz, by rw [hu]; exact HCT.out _ rfl, ⟨HGOT.out.run, rfl, HGOT.out.tell.back HGR.out⟩⟩
      | ok s =>
        have c5 := q_ok5 HS.out.any
        have HLAM : Hid (qlam g L.length wo = s.r.length) := by rw [hwo]; exact QGood.qlam HS.out.any
        have HPOS := hidden (HS.out.any.len s rfl)
        clear hwo
        go_wp2_with fail
        refine (q_eats rc HS.out.any).mono ?_
        rintro en w4 ⟨c, oe, rfl, ha, hf, hc⟩
        clear c5
        rcases hc with ⟨rfl, s', hs, hb, ho⟩ | ⟨rfl, ho, hb⟩
        · injection hs with hs
          subst hs
          subst ho
          have HBB := hidden hb
          replace HS := hidden (HS.out.step ha hf (fun _ h => h) Grow.next)
          have HLX : Hid (Lim (.ok s.next) L.length L.length) := (HLM.out.next_le hb).self.mono (by omega) (by omega)
          clear ha hf hb
          go_wp2_with fail
          obtain ⟨dd, V, c2, f2, hV, ha, hf⟩ := QAny.close HS.out.any (by have := HDD.out; omega)
          obtain ⟨W, hW⟩ : ∃ W, W = w4.setCell ⟨g, 2, none⟩ (.int .i64 V) := ⟨_, rfl⟩
          rw [← hW] at ha hf
          replace HS := hidden (HS.out.step ha hf (fun _ h => h) (Grow.refl _))
          clear ha hf
          refine wp_veil ?_
          go_wp2_with fail
          rw [← hV, ← hW]
          clear hV hW c2 f2
          refine wp_veil ?_
          go_wp2_with fail
          refine (HS.out.lay 23 0 ⟨#[]⟩ ta HBO.out (HLX.out) (HFEW.out)).mono ?_
          rintro en wz ⟨u, Rz, hdu, hgot, _⟩
          obtain rfl := hgot.en
          have HDU := hidden hdu
          have HGOT := hidden hgot
          clear hdu hgot
          go_wp2_with fail
          go_ret
          exact ⟨u, Rz, HCT.out u (Does.stmts_end HBB.out HDU.out), ⟨HGOT.out.run, rfl, HGOT.out.tell.back (HGR.out.trans Grow.next)⟩⟩
        · subst ho
          replace HS := hidden (HS.out.step ha hf (fun _ h => h) (Grow.refl _))
          have HBB : Hid (s.is rc = false) := hb s rfl
          clear ha hf hb
          go_wp2_with fail
          refine (HST.out _ _ _ _ HS.out.any (by have := (HMN.out s rfl).2; omega) (HLM.out.mono (by omega) (Nat.le_refl _))).mono ?_
          rintro en w5 ⟨v, R5, hdo, hgot⟩
          obtain rfl := hgot.en
          have HV := hidden (HS.out.then_ hgot.run hgot.tell.grow)
          have HDO := hidden hdo
          have HT := hidden hgot.tell
          have HLV := hidden (Does.left (fun _ e => by cases e) hdo _ _ HLM.out)
          have HLW := hidden (Does.left_stmt hdo)
          obtain ⟨k, hk⟩ : ∃ k, k = kidO v := ⟨_, rfl⟩
          rw [← hk]
          have HK := hidden hk
          clear hdo hgot hk
          have HAL : Hid (acc.length + 1 ≤ 100000) := by show _ ≤ _; have h1 := (HMN.out s rfl).1; have h2 := HPOS.out; have h3 := HMANY.out; omega
          go_wp2_with (at_builtin; refine wpList_kid rfl (.tmp 30) (.tmp 33) rfl w.heap.size w5 (.slice la A lcp) acc k rfl rfl HV.out.now HV.out.fr.size (by have := HAL.out; omega) ?_; intro v3 w6 h3 hg3 hw3; obtain ⟨va, vc3, hv3⟩ := own_shape5 h3; obtain ⟨R3, hr3⟩ := HV.out.push (k := k) (by rw [HK.out]; exact HT.out.kidIn) h3 hg3 hw3; have HR3 := hidden hr3; clear hr3 h3 hg3 hw3; rw [List.length_append, List.length_singleton] at hv3; subst hv3)
          go_roundw
          case rel =>
            refine ⟨toO v, R3, acc ++ [k], HR3.out, HLV.out, HGR.out.trans HT.out.grow, by rw [List.length_append, List.length_singleton]; exact HAL.out, fun s' hs' => ?_, fun u hu => HCT.out u (Does.stmts_step HBB.out HDO.out (by rw [← HK.out]; exact hu))⟩
            have h1 := HMN.out s rfl
            have h2 := (HLW.out s' hs')
            have h3 := HPOS.out
            rw [List.length_append, List.length_singleton]
            exact ⟨by omega, h1.2⟩
          case measure =>
            show qlam g L.length w6 < qlam g L.length _
            rw [← HWO.out, HLAM.out]
            have h1 := HPOS.out
            have h2 := HR3.out.any
            cases hv : toO v with
            | error f => rw [hv] at h2; rw [QBad.qlam h2]; omega
            | ok s3 => rw [hv] at h2; rw [QGood.qlam h2]; have := HLW.out s3 hv; omega
/-- all statements together -/
theorem q_stmts (B g : Nat) (L : List Tk) (M : Nat) : QBlockC B g L M ∧ QStmtC B g L M := by
  induction M using Nat.strongRecOn with
  | ind M ih =>
    have h1 : QStmtC B g L M := fun w R d o H hd hl => qstmt_of (fun m hm => (ih m hm).1) H hd hl
    refine ⟨fun w R d o H hd hl => ?_, h1⟩
    cases M with
    | zero => exact qblock_of h1 H hd hl
    | succ M => exact qblock_of (M := M + 1) (show QStmtC B g L (M + 1 - 1) from (ih M (Nat.lt_succ_self M)).2) H hd hl
theorem q_block (H : QAny B g L w R d o) (hd : d ≤ 200) (hl : Lim o L.length L.length) : Calls Tryz.prog 22 #[.pointer (some ⟨g, 0, none⟩)] w (QDone B g L w R d o (fun s n => prd n .block d s)) := (q_stmts B g L L.length).1 w R d o H hd hl
end Go.Proofs.YtagacfcpepoaoaaGreatDoor
