/- QuoteStmt, QuoteIf, in one text. -/
import Derived.Test.YtagacfcpepoaoaaGreatDoorQTwo
namespace Go.Proofs.YtagacfcpepoaoaaGreatDoor
open Go.RowKit
set_option linter.unusedVariables false

variable {B g M : Nat} {L : List Tk} {w0 w w' : World} {R0 R R' : Bx} {d d' : Nat} {o o' o1 : Except Flt PS}
theorem q_expr {w : World} {R : Bx} {d : Nat} {o : Except Flt PS} (H : QAny B g L w R d o) (hd : ∀ s, o = .ok s → d ≤ 200) (hl : Lim o L.length M) : Calls Tryz.prog 82 #[.pointer (some ⟨g, 0, none⟩)] w (QDone B g L w R d o (fun s n => rd n (.chain 0) d s)) := (q_all B g L M).2 w R d o H hd hl
def QBlockC (B g : Nat) (L : List Tk) (M : Nat) : Prop := ∀ w R d o, QAny B g L w R d o → d ≤ 200 → Lim o L.length M → Calls Tryz.prog 22 #[.pointer (some ⟨g, 0, none⟩)] w (QDone B g L w R d o (fun s n => prd n .block d s))
def QStmtC (B g : Nat) (L : List Tk) (M : Nat) : Prop := ∀ w R d o, QAny B g L w R d o → d ≤ 200 → Lim o L.length M → Calls Tryz.prog 52 #[.pointer (some ⟨g, 0, none⟩)] w (QDone B g L w R d o (fun s n => prd n .stmt d s))
def letF (d : Nat) : PS → Nat → Option Out := fun s m => needName s fun nm at_ s1 => need eqs s1 fun s2 => needEx m d s2 fun a s3 => need semi s3 fun s4 => some (lay (En 12 [a] 0 nm (at_ : Int)) s4)
def forF (d : Nat) : PS → Nat → Option Out := fun s m => needName s fun nm at_ s1 => need eqs s1 fun s2 => needEx m d s2 fun a s3 => need comma s3 fun s4 => needEx m d s4 fun b s5 => Out.go (prd m .block d s5) fun c s6 => some (lay (En 17 [a, b, hd1 c] 0 nm (at_ : Int)) s6)
def endF (K : Int) (a : Nat) : PS → Nat → Option Out := fun s _ => need semi s fun s1 => some (lay (En K [] 0 ⟨#[]⟩ (a : Int)) s1)
def valF (K : Int) (a d : Nat) : PS → Nat → Option Out := fun s m => needEx m d s fun k s1 => need semi s1 fun s2 => some (lay (En K [k] 0 ⟨#[]⟩ (a : Int)) s2)
def whileF (a d : Nat) : PS → Nat → Option Out := fun s m => needEx m d s fun k s1 => Out.go (prd m .block d s1) fun b s2 => some (lay (En 16 [k, hd1 b] 0 ⟨#[]⟩ (a : Int)) s2)
set_option maxRecDepth 100000 in
set_option maxHeartbeats 20000000 in
theorem qlet_of (H : QAny B g L w R d o) (hd : d ≤ 200) (hl : Lim o L.length M) : Calls Tryz.prog 95 #[.pointer (some ⟨g, 0, none⟩), .bool false] w (QDone B g L w R d o (letF d)) := by
  have HS := hidden (QRun.start H)
  have HDD := hidden hd
  have HL := hidden hl
  have hfd := field_at
  clear H hd hl
  go_enter Tryz.func95, Tryz.ntmps95
  go_wp2_with fail
  have HGA : Hid (Grow o o) := Grow.refl _
  refine (q_name HS.out.any).mono ?_
  rintro en wn1 ⟨ta, rfl, hta, ha, hf⟩
  replace HS := hidden (HS.out.step ha hf (fun _ h => h))
  have HTAta := hidden hta
  obtain ⟨X, hX⟩ : ∃ X, X = nmO o := ⟨_, rfl⟩
  rw [← hX]
  have HXX := hidden hX
  clear ha hf hta hX
  obtain ⟨p1, hp1⟩ : ∃ p1, p1 = nameO o := ⟨_, rfl⟩
  rw [← hp1] at HS
  have HO1 := hidden hp1
  have HL1 : Hid (Lim p1 L.length M) := by rw [hp1]; exact Lim.name_le HL.out
  have HG1 : Hid (Grow o p1) := by rw [hp1]; exact Grow.name
  replace HGA := hidden (HGA.out.trans HG1.out)
  clear hp1
  go_wp2_with fail
  refine (q_must eqs HS.out.any).mono ?_
  rintro en wm2 ⟨⟨xwm2, rfl⟩, ha, hf⟩
  replace HS := hidden (HS.out.step ha hf (fun _ h => h))
  clear ha hf
  obtain ⟨p2, hp2⟩ : ∃ p2, p2 = needO eqs p1 := ⟨_, rfl⟩
  rw [← hp2] at HS
  have HO2 := hidden hp2
  have HL2 : Hid (Lim p2 L.length M) := by rw [hp2]; exact Lim.need_le HL1.out
  have HG2 : Hid (Grow p1 p2) := by rw [hp2]; exact Grow.need _
  replace HGA := hidden (HGA.out.trans HG2.out)
  clear hp2
  go_wp2_with fail
  refine (q_expr HS.out.any (fun _ _ => HDD.out) HL2.out).mono ?_
  rintro en wc3 ⟨va, Rc3, hdo, hgot⟩
  obtain rfl := hgot.en
  replace HS := hidden (HS.out.then_ hgot.run)
  have HDa := hidden hdo
  have HTa := hidden hgot.tell
  obtain ⟨a, hk⟩ : ∃ a, a = kidO va := ⟨_, rfl⟩
  rw [← hk]
  have HKa := hidden hk
  clear hdo hgot hk
  obtain ⟨p3, hp3⟩ : ∃ p3, p3 = toO va := ⟨_, rfl⟩
  rw [← hp3] at HS
  have HO3 := hidden hp3
  have HL3 : Hid (Lim p3 L.length M) := by rw [hp3]; exact Does.left_rd HDa.out _ _ HL2.out
  have HG3 : Hid (Grow p2 p3) := by rw [hp3]; exact HTa.out.grow
  replace HGA := hidden (HGA.out.trans HG3.out)
  clear hp3
  have HIa : Hid (KidIn p3 a) := by rw [HKa.out, HO3.out]; exact HTa.out.kidIn
  go_wp2_with fail
  refine (q_must semi HS.out.any).mono ?_
  rintro en wm4 ⟨⟨xwm4, rfl⟩, ha, hf⟩
  replace HS := hidden (HS.out.step ha hf (fun _ h => h))
  clear ha hf
  obtain ⟨p4, hp4⟩ : ∃ p4, p4 = needO semi p3 := ⟨_, rfl⟩
  rw [← hp4] at HS
  have HO4 := hidden hp4
  have HL4 : Hid (Lim p4 L.length M) := by rw [hp4]; exact Lim.need_le HL3.out
  have HG4 : Hid (Grow p3 p4) := by rw [hp4]; exact Grow.need _
  replace HGA := hidden (HGA.out.trans HG4.out)
  clear hp4
  replace HIa := hidden (HIa.out.grow HG4.out)
  go_wp2_with fail
  refine (lay_new 12 [a] 0 X ta #[.int .i64 a] rfl 1 rfl HS.out.any (fun j hj => by
        simp only [List.mem_cons, List.not_mem_nil, or_false] at hj
        subst hj
        exact HIa.out) (HL4.out.self) (by simp)).mono ?_
  rintro en wz ⟨u, Rz, hdu, hgot, _⟩
  obtain rfl := hgot.en
  have HDU := hidden hdu
  have HGOT := hidden hgot
  clear hdu hgot
  go_wp2_with fail
  go_ret
  refine ⟨u, Rz, ?_, ⟨HS.out.then_ HGOT.out.run, rfl, HGOT.out.tell.back HGA.out⟩⟩
  refine Does.name HTAta.out ?_
  rw [← HXX.out, ← HO1.out]
  refine Does.need (b := eqs) ?_
  rw [← HO2.out]
  refine Does.ex HDa.out ?_
  rw [← HO3.out, ← HKa.out]
  refine Does.need (b := semi) ?_
  rw [← HO4.out]
  exact HDU.out
set_option maxRecDepth 100000 in
set_option maxHeartbeats 20000000 in
theorem qfor_of (hB : QBlockC B g L M) (H : QAny B g L w R d o) (hd : d ≤ 200) (hl : Lim o L.length M) : Calls Tryz.prog 95 #[.pointer (some ⟨g, 0, none⟩), .bool true] w (QDone B g L w R d o (forF d)) := by
  have HS := hidden (QRun.start H)
  have HDD := hidden hd
  have HL := hidden hl
  have HB := hidden hB
  clear hB
  have hfd := field_at
  clear H hd hl
  go_enter Tryz.func95, Tryz.ntmps95
  go_wp2_with fail
  have HGA : Hid (Grow o o) := Grow.refl _
  refine (q_name HS.out.any).mono ?_
  rintro en wn1 ⟨ta, rfl, hta, ha, hf⟩
  replace HS := hidden (HS.out.step ha hf (fun _ h => h))
  have HTAta := hidden hta
  obtain ⟨X, hX⟩ : ∃ X, X = nmO o := ⟨_, rfl⟩
  rw [← hX]
  have HXX := hidden hX
  clear ha hf hta hX
  obtain ⟨p1, hp1⟩ : ∃ p1, p1 = nameO o := ⟨_, rfl⟩
  rw [← hp1] at HS
  have HO1 := hidden hp1
  have HL1 : Hid (Lim p1 L.length M) := by rw [hp1]; exact Lim.name_le HL.out
  have HG1 : Hid (Grow o p1) := by rw [hp1]; exact Grow.name
  replace HGA := hidden (HGA.out.trans HG1.out)
  clear hp1
  go_wp2_with fail
  refine (q_must eqs HS.out.any).mono ?_
  rintro en wm2 ⟨⟨xwm2, rfl⟩, ha, hf⟩
  replace HS := hidden (HS.out.step ha hf (fun _ h => h))
  clear ha hf
  obtain ⟨p2, hp2⟩ : ∃ p2, p2 = needO eqs p1 := ⟨_, rfl⟩
  rw [← hp2] at HS
  have HO2 := hidden hp2
  have HL2 : Hid (Lim p2 L.length M) := by rw [hp2]; exact Lim.need_le HL1.out
  have HG2 : Hid (Grow p1 p2) := by rw [hp2]; exact Grow.need _
  replace HGA := hidden (HGA.out.trans HG2.out)
  clear hp2
  go_wp2_with fail
  refine (q_expr HS.out.any (fun _ _ => HDD.out) HL2.out).mono ?_
  rintro en wc3 ⟨va, Rc3, hdo, hgot⟩
  obtain rfl := hgot.en
  replace HS := hidden (HS.out.then_ hgot.run)
  have HDa := hidden hdo
  have HTa := hidden hgot.tell
  obtain ⟨a, hk⟩ : ∃ a, a = kidO va := ⟨_, rfl⟩
  rw [← hk]
  have HKa := hidden hk
  clear hdo hgot hk
  obtain ⟨p3, hp3⟩ : ∃ p3, p3 = toO va := ⟨_, rfl⟩
  rw [← hp3] at HS
  have HO3 := hidden hp3
  have HL3 : Hid (Lim p3 L.length M) := by rw [hp3]; exact Does.left_rd HDa.out _ _ HL2.out
  have HG3 : Hid (Grow p2 p3) := by rw [hp3]; exact HTa.out.grow
  replace HGA := hidden (HGA.out.trans HG3.out)
  clear hp3
  have HIa : Hid (KidIn p3 a) := by rw [HKa.out, HO3.out]; exact HTa.out.kidIn
  go_wp2_with fail
  refine (q_must comma HS.out.any).mono ?_
  rintro en wm4 ⟨⟨xwm4, rfl⟩, ha, hf⟩
  replace HS := hidden (HS.out.step ha hf (fun _ h => h))
  clear ha hf
  obtain ⟨p4, hp4⟩ : ∃ p4, p4 = needO comma p3 := ⟨_, rfl⟩
  rw [← hp4] at HS
  have HO4 := hidden hp4
  have HL4 : Hid (Lim p4 L.length M) := by rw [hp4]; exact Lim.need_le HL3.out
  have HG4 : Hid (Grow p3 p4) := by rw [hp4]; exact Grow.need _
  replace HGA := hidden (HGA.out.trans HG4.out)
  clear hp4
  replace HIa := hidden (HIa.out.grow HG4.out)
  go_wp2_with fail
  refine (q_expr HS.out.any (fun _ _ => HDD.out) HL4.out).mono ?_
  rintro en wc5 ⟨vb, Rc5, hdo, hgot⟩
  obtain rfl := hgot.en
  replace HS := hidden (HS.out.then_ hgot.run)
  have HDb := hidden hdo
  have HTb := hidden hgot.tell
  obtain ⟨b, hk⟩ : ∃ b, b = kidO vb := ⟨_, rfl⟩
  rw [← hk]
  have HKb := hidden hk
  clear hdo hgot hk
  obtain ⟨p5, hp5⟩ : ∃ p5, p5 = toO vb := ⟨_, rfl⟩
  rw [← hp5] at HS
  have HO5 := hidden hp5
  have HL5 : Hid (Lim p5 L.length M) := by rw [hp5]; exact Does.left_rd HDb.out _ _ HL4.out
  have HG5 : Hid (Grow p4 p5) := by rw [hp5]; exact HTb.out.grow
  replace HGA := hidden (HGA.out.trans HG5.out)
  clear hp5
  replace HIa := hidden (HIa.out.grow HG5.out)
  have HIb : Hid (KidIn p5 b) := by rw [HKb.out, HO5.out]; exact HTb.out.kidIn
  go_wp2_with fail
  refine (HB.out _ _ _ _ HS.out.any HDD.out HL5.out).mono ?_
  rintro en wc6 ⟨vc, Rc6, hdo, hgot⟩
  obtain rfl := hgot.en
  replace HS := hidden (HS.out.then_ hgot.run)
  have HDc := hidden hdo
  have HTc := hidden hgot.tell
  obtain ⟨c, hk⟩ : ∃ c, c = kidO vc := ⟨_, rfl⟩
  rw [← hk]
  have HKc := hidden hk
  clear hdo hgot hk
  obtain ⟨p6, hp6⟩ : ∃ p6, p6 = toO vc := ⟨_, rfl⟩
  rw [← hp6] at HS
  have HO6 := hidden hp6
  have HL6 : Hid (Lim p6 L.length M) := by rw [hp6]; exact Does.left (fun _ e => by cases e) HDc.out _ _ HL5.out
  have HG6 : Hid (Grow p5 p6) := by rw [hp6]; exact HTc.out.grow
  replace HGA := hidden (HGA.out.trans HG6.out)
  clear hp6
  replace HIa := hidden (HIa.out.grow HG6.out)
  replace HIb := hidden (HIb.out.grow HG6.out)
  have HIc : Hid (KidIn p6 c) := by rw [HKc.out, HO6.out]; exact HTc.out.kidIn
  go_wp2_with fail
  refine (lay_new 17 [a, b, c] 0 X ta #[.int .i64 a, .int .i64 b, .int .i64 c] rfl 3 rfl HS.out.any (fun j hj => by
        simp only [List.mem_cons, List.not_mem_nil, or_false] at hj
        rcases hj with rfl | rfl | rfl
        · exact HIa.out
        · exact HIb.out
        · exact HIc.out) (HL6.out.self) (by simp)).mono ?_
  rintro en wz ⟨u, Rz, hdu, hgot, _⟩
  obtain rfl := hgot.en
  have HDU := hidden hdu
  have HGOT := hidden hgot
  clear hdu hgot
  go_wp2_with fail
  go_ret
  refine ⟨u, Rz, ?_, ⟨HS.out.then_ HGOT.out.run, rfl, HGOT.out.tell.back HGA.out⟩⟩
  refine Does.name HTAta.out ?_
  rw [← HXX.out, ← HO1.out]
  refine Does.need (b := eqs) ?_
  rw [← HO2.out]
  refine Does.ex HDa.out ?_
  rw [← HO3.out, ← HKa.out]
  refine Does.need (b := comma) ?_
  rw [← HO4.out]
  refine Does.ex HDb.out ?_
  rw [← HO5.out, ← HKb.out]
  refine Does.go (G := fun c s6 _ => some (lay (En 17 [a, b, c] 0 X (ta : Int)) s6)) HDc.out ?_
  rw [← HO6.out, ← HKc.out]
  exact HDU.out
set_option maxRecDepth 100000 in
set_option maxHeartbeats 20000000 in
theorem qword_var (ta : Nat) (H : QAny B g L w R d o) (hd : d ≤ 200) (hl : Lim o L.length M) : Calls Tryz.prog 79 #[.pointer (some ⟨g, 0, none⟩), .string ⟨#[118, 97, 114]⟩, .int .i64 (ta : Int)] w (QDone B g L w R d o (letF d)) := by
  have HS := hidden (QRun.start H)
  have HDD := hidden hd
  have HL := hidden hl
  have hfd := field_at
  clear H hd hl
  go_enter Tryz.func79, Tryz.ntmps79
  go_wp2_with fail
  refine (qlet_of HS.out.any HDD.out HL.out).mono ?_
  rintro en w1 ⟨u, R1, hdo, hgot⟩
  obtain rfl := hgot.en
  have HDO := hidden hdo
  have HGOT := hidden hgot
  clear hdo hgot
  go_wp2_with fail
  go_ret
  exact ⟨u, R1, HDO.out, HGOT.out⟩
set_option maxRecDepth 100000 in
set_option maxHeartbeats 20000000 in
theorem qword_for (ta : Nat) (hB : QBlockC B g L M) (H : QAny B g L w R d o) (hd : d ≤ 200) (hl : Lim o L.length M) : Calls Tryz.prog 79 #[.pointer (some ⟨g, 0, none⟩), .string ⟨#[102, 111, 114]⟩, .int .i64 (ta : Int)] w (QDone B g L w R d o (forF d)) := by
  have HS := hidden (QRun.start H)
  have HDD := hidden hd
  have HL := hidden hl
  have HB := hidden hB
  clear hB
  have hfd := field_at
  clear H hd hl
  go_enter Tryz.func79, Tryz.ntmps79
  go_wp2_with fail
  refine (qfor_of HB.out HS.out.any HDD.out HL.out).mono ?_
  rintro en w1 ⟨u, R1, hdo, hgot⟩
  obtain rfl := hgot.en
  have HDO := hidden hdo
  have HGOT := hidden hgot
  clear hdo hgot
  go_wp2_with fail
  go_ret
  exact ⟨u, R1, HDO.out, HGOT.out⟩
set_option maxRecDepth 100000 in
set_option maxHeartbeats 20000000 in
theorem qword_break (ta : Nat) (H : QAny B g L w R d o) (hd : d ≤ 200) (hl : Lim o L.length M) : Calls Tryz.prog 79 #[.pointer (some ⟨g, 0, none⟩), .string ⟨#[98, 114, 101, 97, 107]⟩, .int .i64 (ta : Int)] w (QDone B g L w R d o (endF 18 ta)) := by
  have HS := hidden (QRun.start H)
  have HDD := hidden hd
  have HL := hidden hl
  have hfd := field_at
  clear H hd hl
  go_enter Tryz.func79, Tryz.ntmps79
  go_wp2_with fail
  have HGA : Hid (Grow o o) := Grow.refl _
  refine (q_must semi HS.out.any).mono ?_
  rintro en wm1 ⟨⟨xwm1, rfl⟩, ha, hf⟩
  replace HS := hidden (HS.out.step ha hf (fun _ h => h))
  clear ha hf
  obtain ⟨p1, hp1⟩ : ∃ p1, p1 = needO semi o := ⟨_, rfl⟩
  rw [← hp1] at HS
  have HO1 := hidden hp1
  have HL1 : Hid (Lim p1 L.length M) := by rw [hp1]; exact Lim.need_le HL.out
  have HG1 : Hid (Grow o p1) := by rw [hp1]; exact Grow.need _
  replace HGA := hidden (HGA.out.trans HG1.out)
  clear hp1
  go_wp2_with fail
  refine (lay_nil 18 0 ⟨#[]⟩ ta HS.out.any (HL1.out.self)).mono ?_
  rintro en wz ⟨u, Rz, hdu, hgot, _⟩
  obtain rfl := hgot.en
  have HDU := hidden hdu
  have HGOT := hidden hgot
  clear hdu hgot
  go_wp2_with fail
  go_ret
  refine ⟨u, Rz, ?_, ⟨HS.out.then_ HGOT.out.run, rfl, HGOT.out.tell.back HGA.out⟩⟩
  refine Does.need (b := semi) ?_
  rw [← HO1.out]
  exact HDU.out
set_option maxRecDepth 100000 in
set_option maxHeartbeats 20000000 in
theorem qword_cont (ta : Nat) (H : QAny B g L w R d o) (hd : d ≤ 200) (hl : Lim o L.length M) : Calls Tryz.prog 79 #[.pointer (some ⟨g, 0, none⟩), .string ⟨#[99, 111, 110, 116, 105, 110, 117, 101]⟩, .int .i64 (ta : Int)] w (QDone B g L w R d o (endF 19 ta)) := by
  have HS := hidden (QRun.start H)
  have HDD := hidden hd
  have HL := hidden hl
  have hfd := field_at
  clear H hd hl
  go_enter Tryz.func79, Tryz.ntmps79
  go_wp2_with fail
  have HGA : Hid (Grow o o) := Grow.refl _
  refine (q_must semi HS.out.any).mono ?_
  rintro en wm1 ⟨⟨xwm1, rfl⟩, ha, hf⟩
  replace HS := hidden (HS.out.step ha hf (fun _ h => h))
  clear ha hf
  obtain ⟨p1, hp1⟩ : ∃ p1, p1 = needO semi o := ⟨_, rfl⟩
  rw [← hp1] at HS
  have HO1 := hidden hp1
  have HL1 : Hid (Lim p1 L.length M) := by rw [hp1]; exact Lim.need_le HL.out
  have HG1 : Hid (Grow o p1) := by rw [hp1]; exact Grow.need _
  replace HGA := hidden (HGA.out.trans HG1.out)
  clear hp1
  go_wp2_with fail
  refine (lay_nil 19 0 ⟨#[]⟩ ta HS.out.any (HL1.out.self)).mono ?_
  rintro en wz ⟨u, Rz, hdu, hgot, _⟩
  obtain rfl := hgot.en
  have HDU := hidden hdu
  have HGOT := hidden hgot
  clear hdu hgot
  go_wp2_with fail
  go_ret
  refine ⟨u, Rz, ?_, ⟨HS.out.then_ HGOT.out.run, rfl, HGOT.out.tell.back HGA.out⟩⟩
  refine Does.need (b := semi) ?_
  rw [← HO1.out]
  exact HDU.out
set_option maxRecDepth 100000 in
set_option maxHeartbeats 20000000 in
theorem qword_ret (ta : Nat) (H : QAny B g L w R d o) (hd : d ≤ 200) (hl : Lim o L.length M) : Calls Tryz.prog 79 #[.pointer (some ⟨g, 0, none⟩), .string ⟨#[114, 101, 116, 117, 114, 110]⟩, .int .i64 (ta : Int)] w (QDone B g L w R d o (valF 20 ta d)) := by
  have HS := hidden (QRun.start H)
  have HDD := hidden hd
  have HL := hidden hl
  have hfd := field_at
  clear H hd hl
  go_enter Tryz.func79, Tryz.ntmps79
  go_wp2_with fail
  have HGA : Hid (Grow o o) := Grow.refl _
  refine (q_expr HS.out.any (fun _ _ => HDD.out) HL.out).mono ?_
  rintro en wc1 ⟨va, Rc1, hdo, hgot⟩
  obtain rfl := hgot.en
  replace HS := hidden (HS.out.then_ hgot.run)
  have HDa := hidden hdo
  have HTa := hidden hgot.tell
  obtain ⟨a, hk⟩ : ∃ a, a = kidO va := ⟨_, rfl⟩
  rw [← hk]
  have HKa := hidden hk
  clear hdo hgot hk
  obtain ⟨p1, hp1⟩ : ∃ p1, p1 = toO va := ⟨_, rfl⟩
  rw [← hp1] at HS
  have HO1 := hidden hp1
  have HL1 : Hid (Lim p1 L.length M) := by rw [hp1]; exact Does.left_rd HDa.out _ _ HL.out
  have HG1 : Hid (Grow o p1) := by rw [hp1]; exact HTa.out.grow
  replace HGA := hidden (HGA.out.trans HG1.out)
  clear hp1
  have HIa : Hid (KidIn p1 a) := by rw [HKa.out, HO1.out]; exact HTa.out.kidIn
  go_wp2_with fail
  refine (q_must semi HS.out.any).mono ?_
  rintro en wm2 ⟨⟨xwm2, rfl⟩, ha, hf⟩
  replace HS := hidden (HS.out.step ha hf (fun _ h => h))
  clear ha hf
  obtain ⟨p2, hp2⟩ : ∃ p2, p2 = needO semi p1 := ⟨_, rfl⟩
  rw [← hp2] at HS
  have HO2 := hidden hp2
  have HL2 : Hid (Lim p2 L.length M) := by rw [hp2]; exact Lim.need_le HL1.out
  have HG2 : Hid (Grow p1 p2) := by rw [hp2]; exact Grow.need _
  replace HGA := hidden (HGA.out.trans HG2.out)
  clear hp2
  replace HIa := hidden (HIa.out.grow HG2.out)
  go_wp2_with fail
  refine (lay_new 20 [a] 0 ⟨#[]⟩ ta #[.int .i64 a] rfl 1 rfl HS.out.any (fun j hj => by
        simp only [List.mem_cons, List.not_mem_nil, or_false] at hj
        subst hj
        exact HIa.out) (HL2.out.self) (by simp)).mono ?_
  rintro en wz ⟨u, Rz, hdu, hgot, _⟩
  obtain rfl := hgot.en
  have HDU := hidden hdu
  have HGOT := hidden hgot
  clear hdu hgot
  go_wp2_with fail
  go_ret
  refine ⟨u, Rz, ?_, ⟨HS.out.then_ HGOT.out.run, rfl, HGOT.out.tell.back HGA.out⟩⟩
  refine Does.ex HDa.out ?_
  rw [← HO1.out, ← HKa.out]
  refine Does.need (b := semi) ?_
  rw [← HO2.out]
  exact HDU.out
set_option maxRecDepth 100000 in
set_option maxHeartbeats 20000000 in
theorem qword_print (ta : Nat) (H : QAny B g L w R d o) (hd : d ≤ 200) (hl : Lim o L.length M) : Calls Tryz.prog 79 #[.pointer (some ⟨g, 0, none⟩), .string ⟨#[112, 114, 105, 110, 116]⟩, .int .i64 (ta : Int)] w (QDone B g L w R d o (valF 21 ta d)) := by
  have HS := hidden (QRun.start H)
  have HDD := hidden hd
  have HL := hidden hl
  have hfd := field_at
  clear H hd hl
  go_enter Tryz.func79, Tryz.ntmps79
  go_wp2_with fail
  have HGA : Hid (Grow o o) := Grow.refl _
  refine (q_expr HS.out.any (fun _ _ => HDD.out) HL.out).mono ?_
  rintro en wc1 ⟨va, Rc1, hdo, hgot⟩
  obtain rfl := hgot.en
  replace HS := hidden (HS.out.then_ hgot.run)
  have HDa := hidden hdo
  have HTa := hidden hgot.tell
  obtain ⟨a, hk⟩ : ∃ a, a = kidO va := ⟨_, rfl⟩
  rw [← hk]
  have HKa := hidden hk
  clear hdo hgot hk
  obtain ⟨p1, hp1⟩ : ∃ p1, p1 = toO va := ⟨_, rfl⟩
  rw [← hp1] at HS
  have HO1 := hidden hp1
  have HL1 : Hid (Lim p1 L.length M) := by rw [hp1]; exact Does.left_rd HDa.out _ _ HL.out
  have HG1 : Hid (Grow o p1) := by rw [hp1]; exact HTa.out.grow
  replace HGA := hidden (HGA.out.trans HG1.out)
  clear hp1
  have HIa : Hid (KidIn p1 a) := by rw [HKa.out, HO1.out]; exact HTa.out.kidIn
  go_wp2_with fail
  refine (q_must semi HS.out.any).mono ?_
  rintro en wm2 ⟨⟨xwm2, rfl⟩, ha, hf⟩
  replace HS := hidden (HS.out.step ha hf (fun _ h => h))
  clear ha hf
  obtain ⟨p2, hp2⟩ : ∃ p2, p2 = needO semi p1 := ⟨_, rfl⟩
  rw [← hp2] at HS
  have HO2 := hidden hp2
  have HL2 : Hid (Lim p2 L.length M) := by rw [hp2]; exact Lim.need_le HL1.out
  have HG2 : Hid (Grow p1 p2) := by rw [hp2]; exact Grow.need _
  replace HGA := hidden (HGA.out.trans HG2.out)
  clear hp2
  replace HIa := hidden (HIa.out.grow HG2.out)
  go_wp2_with fail
  refine (lay_new 21 [a] 0 ⟨#[]⟩ ta #[.int .i64 a] rfl 1 rfl HS.out.any (fun j hj => by
        simp only [List.mem_cons, List.not_mem_nil, or_false] at hj
        subst hj
        exact HIa.out) (HL2.out.self) (by simp)).mono ?_
  rintro en wz ⟨u, Rz, hdu, hgot, _⟩
  obtain rfl := hgot.en
  have HDU := hidden hdu
  have HGOT := hidden hgot
  clear hdu hgot
  go_wp2_with fail
  go_ret
  refine ⟨u, Rz, ?_, ⟨HS.out.then_ HGOT.out.run, rfl, HGOT.out.tell.back HGA.out⟩⟩
  refine Does.ex HDa.out ?_
  rw [← HO1.out, ← HKa.out]
  refine Does.need (b := semi) ?_
  rw [← HO2.out]
  exact HDU.out
set_option maxRecDepth 100000 in
set_option maxHeartbeats 20000000 in
theorem qword_while (ta : Nat) (hB : QBlockC B g L M) (H : QAny B g L w R d o) (hd : d ≤ 200) (hl : Lim o L.length M) : Calls Tryz.prog 79 #[.pointer (some ⟨g, 0, none⟩), .string ⟨#[119, 104, 105, 108, 101]⟩, .int .i64 (ta : Int)] w (QDone B g L w R d o (whileF ta d)) := by
  have HS := hidden (QRun.start H)
  have HDD := hidden hd
  have HL := hidden hl
  have HB := hidden hB
  clear hB
  have hfd := field_at
  clear H hd hl
  go_enter Tryz.func79, Tryz.ntmps79
  go_wp2_with fail
  have HGA : Hid (Grow o o) := Grow.refl _
  refine (q_expr HS.out.any (fun _ _ => HDD.out) HL.out).mono ?_
  rintro en wc1 ⟨va, Rc1, hdo, hgot⟩
  obtain rfl := hgot.en
  replace HS := hidden (HS.out.then_ hgot.run)
  have HDa := hidden hdo
  have HTa := hidden hgot.tell
  obtain ⟨a, hk⟩ : ∃ a, a = kidO va := ⟨_, rfl⟩
  rw [← hk]
  have HKa := hidden hk
  clear hdo hgot hk
  obtain ⟨p1, hp1⟩ : ∃ p1, p1 = toO va := ⟨_, rfl⟩
  rw [← hp1] at HS
  have HO1 := hidden hp1
  have HL1 : Hid (Lim p1 L.length M) := by rw [hp1]; exact Does.left_rd HDa.out _ _ HL.out
  have HG1 : Hid (Grow o p1) := by rw [hp1]; exact HTa.out.grow
  replace HGA := hidden (HGA.out.trans HG1.out)
  clear hp1
  have HIa : Hid (KidIn p1 a) := by rw [HKa.out, HO1.out]; exact HTa.out.kidIn
  go_wp2_with fail
  refine (HB.out _ _ _ _ HS.out.any HDD.out HL1.out).mono ?_
  rintro en wc2 ⟨vb, Rc2, hdo, hgot⟩
  obtain rfl := hgot.en
  replace HS := hidden (HS.out.then_ hgot.run)
  have HDb := hidden hdo
  have HTb := hidden hgot.tell
  obtain ⟨b, hk⟩ : ∃ b, b = kidO vb := ⟨_, rfl⟩
  rw [← hk]
  have HKb := hidden hk
  clear hdo hgot hk
  obtain ⟨p2, hp2⟩ : ∃ p2, p2 = toO vb := ⟨_, rfl⟩
  rw [← hp2] at HS
  have HO2 := hidden hp2
  have HL2 : Hid (Lim p2 L.length M) := by rw [hp2]; exact Does.left (fun _ e => by cases e) HDb.out _ _ HL1.out
  have HG2 : Hid (Grow p1 p2) := by rw [hp2]; exact HTb.out.grow
  replace HGA := hidden (HGA.out.trans HG2.out)
  clear hp2
  replace HIa := hidden (HIa.out.grow HG2.out)
  have HIb : Hid (KidIn p2 b) := by rw [HKb.out, HO2.out]; exact HTb.out.kidIn
  go_wp2_with fail
  refine (lay_new 16 [a, b] 0 ⟨#[]⟩ ta #[.int .i64 a, .int .i64 b] rfl 2 rfl HS.out.any (fun j hj => by
        simp only [List.mem_cons, List.not_mem_nil, or_false] at hj
        rcases hj with rfl | rfl
        · exact HIa.out
        · exact HIb.out) (HL2.out.self) (by simp)).mono ?_
  rintro en wz ⟨u, Rz, hdu, hgot, _⟩
  obtain rfl := hgot.en
  have HDU := hidden hdu
  have HGOT := hidden hgot
  clear hdu hgot
  go_wp2_with fail
  go_ret
  refine ⟨u, Rz, ?_, ⟨HS.out.then_ HGOT.out.run, rfl, HGOT.out.tell.back HGA.out⟩⟩
  refine Does.ex HDa.out ?_
  rw [← HO1.out, ← HKa.out]
  refine Does.go (G := fun b s2 _ => some (lay (En 16 [a, b] 0 ⟨#[]⟩ (ta : Int)) s2)) HDb.out ?_
  rw [← HO2.out, ← HKb.out]
  exact HDU.out
end Go.Proofs.YtagacfcpepoaoaaGreatDoor

namespace Go.Proofs.YtagacfcpepoaoaaGreatDoor
open Go.RowKit
set_option linter.unusedVariables false

variable {B g M : Nat} {L : List Tk} {w0 w w' : World} {R0 R R' : Bx} {d d' : Nat} {o o' o1 : Except Flt PS} {acc : List Int}
/-- a list that was just made -/
theorem QRun.pre_new (H : QRun B g L w0 R0 d w R o) (H0 : QAny B g L w0 R0 d' o') (cs : Array Value) (hcs : cs = (acc.map (Value.int .i64)).toArray) (m : Nat) (hm : m = acc.length) (hn : acc.length ≤ 100000) (hv : ∀ k ∈ acc, KidIn o k) :
    ∃ R1, QPre B g L w0 R0 d (w.alloc (.cells cs 3)) R1 o (.slice (some ⟨w.heap.size, 0, none⟩) m m) acc := by
  have hW1 : Below w.heap.size w (w.alloc (.cells cs 3)) := (Below.refl _ _).alloc (Nat.le_refl _) _
  have H1 := H.any.widen hW1 (fun k => R.Z k ∨ k = w.heap.size) (fun k hk => by
    rcases hk with hk | hk
    · exact .inl hk
    · exact .inr ⟨by omega, by rw [hk]; simp⟩)
  have F := H.fr.trans (Fr.of_below R hW1)
  refine ⟨_, ⟨⟨H1, ⟨F.os, F.tape, F.output, F.size, F.block, F.vn, F.vh⟩, fun k hk => .inl (H.z k hk)⟩, fun k hk => ?_, own_base (now_new w acc cs hcs hn m hm) H.fr.size, hv, H0.tabs.size, fun k hk => H0.zlt hk⟩⟩
  have e : w.heap.size = k := by simpa [Value.ownBlock] using hk
  exact .inr e.symm
def ifF (a d : Nat) : PS → Nat → Option Out := fun s m => needEx m d s fun k s1 => Out.go (prd m .block d s1) fun b s2 =>
  if s2.is wElse then Out.go (prd m .block d s2.next) fun c s3 => some (lay (En 15 [k, hd1 b, hd1 c] 0 ⟨#[]⟩ (a : Int)) s3) else some (lay (En 15 [k, hd1 b] 0 ⟨#[]⟩ (a : Int)) s2)
set_option maxRecDepth 100000 in
set_option maxHeartbeats 20000000 in
theorem qword_if (ta : Nat) (hB : QBlockC B g L M) (H : QAny B g L w R d o) (hd : d ≤ 200) (hl : Lim o L.length M) : Calls Tryz.prog 79 #[.pointer (some ⟨g, 0, none⟩), .string ⟨#[105, 102]⟩, .int .i64 (ta : Int)] w (QDone B g L w R d o (ifF ta d)) := by
  have HS := hidden (QRun.start H)
  have HDD := hidden hd
  have HL := hidden hl
  have HB := hidden hB
  clear hB
  have hfd := field_at
  clear H hd hl
  go_enter Tryz.func79, Tryz.ntmps79
  go_wp2_with fail
  have HGA : Hid (Grow o o) := Grow.refl _
  have HB0 := hidden HS.out.any
  have HBO : Hid (B ≤ w.heap.size) := HS.out.any.old
  refine (q_expr HS.out.any (fun _ _ => HDD.out) HL.out).mono ?_
  rintro en wc1 ⟨va, Rc1, hdo, hgot⟩
  obtain rfl := hgot.en
  replace HS := hidden (HS.out.then_ hgot.run)
  have HDa := hidden hdo
  have HTa := hidden hgot.tell
  obtain ⟨a, hk⟩ : ∃ a, a = kidO va := ⟨_, rfl⟩
  rw [← hk]
  have HKa := hidden hk
  clear hdo hgot hk
  obtain ⟨p1, hp1⟩ : ∃ p1, p1 = toO va := ⟨_, rfl⟩
  rw [← hp1] at HS
  have HO1 := hidden hp1
  have HL1 : Hid (Lim p1 L.length M) := by rw [hp1]; exact Does.left_rd HDa.out _ _ HL.out
  have HG1 : Hid (Grow o p1) := by rw [hp1]; exact HTa.out.grow
  replace HGA := hidden (HGA.out.trans HG1.out)
  clear hp1
  have HIa : Hid (KidIn p1 a) := by rw [HKa.out, HO1.out]; exact HTa.out.kidIn
  go_wp2_with fail
  refine (HB.out _ _ _ _ HS.out.any HDD.out HL1.out).mono ?_
  rintro en wc2 ⟨vb, Rc2, hdo, hgot⟩
  obtain rfl := hgot.en
  replace HS := hidden (HS.out.then_ hgot.run)
  have HDb := hidden hdo
  have HTb := hidden hgot.tell
  obtain ⟨b, hk⟩ : ∃ b, b = kidO vb := ⟨_, rfl⟩
  rw [← hk]
  have HKb := hidden hk
  clear hdo hgot hk
  obtain ⟨p2, hp2⟩ : ∃ p2, p2 = toO vb := ⟨_, rfl⟩
  rw [← hp2] at HS
  have HO2 := hidden hp2
  have HL2 : Hid (Lim p2 L.length M) := by rw [hp2]; exact Does.left (fun _ e => by cases e) HDb.out _ _ HL1.out
  have HG2 : Hid (Grow p1 p2) := by rw [hp2]; exact HTb.out.grow
  replace HGA := hidden (HGA.out.trans HG2.out)
  clear hp2
  replace HIa := hidden (HIa.out.grow HG2.out)
  have HIb : Hid (KidIn p2 b) := by rw [HKb.out, HO2.out]; exact HTb.out.kidIn
  obtain ⟨W, hW⟩ : ∃ W, W = wc2.alloc (.cells #[.int .i64 a, .int .i64 b] 3) := ⟨_, rfl⟩
  obtain ⟨GG, hGG⟩ : ∃ GG, GG = wc2.heap.size := ⟨_, rfl⟩
  obtain ⟨RP, hrp⟩ := HS.out.pre_new (acc := [a, b]) HB0.out #[.int .i64 a, .int .i64 b] rfl 2 rfl (by simp) (fun j hj => by
        simp only [List.mem_cons, List.not_mem_nil, or_false] at hj
        rcases hj with rfl | rfl
        · exact HIa.out
        · exact HIb.out)
  rw [← hW, ← hGG] at hrp
  have HP := hidden hrp
  clear hrp HS
  go_wp2_with fail
  rw [← hW, ← hGG]
  clear hW hGG
  refine (q_eats wElse HP.out.any).mono ?_
  rintro en we ⟨cc, oe, rfl, ha, hf, hc⟩
  rcases hc with ⟨rfl, s, hs, hb, ho⟩ | ⟨rfl, ho, hb⟩
  · subst ho
    have HSS := hidden hs
    have HBB := hidden hb
    have HGE : Hid (Grow p2 (.ok s.next)) := by rw [hs]; exact Grow.next
    have HLE : Hid (Lim (.ok s.next) L.length M) := by have h1 := HL2.out; rw [hs] at h1; exact (h1.next_le hb).mono (by omega) (by omega)
    replace HP := hidden (HP.out.step ha hf (fun _ h => h) HGE.out)
    clear ha hf hs hb
    go_wp2_with fail
    refine (HB.out _ _ _ _ HP.out.any HDD.out HLE.out).mono ?_
    rintro en wd ⟨vc, Rd', hdo, hgot⟩
    obtain rfl := hgot.en
    replace HP := hidden (HP.out.then_ hgot.run hgot.tell.grow)
    have HDc := hidden hdo
    have HTc := hidden hgot.tell
    have HLc := hidden (Does.left (fun _ e => by cases e) hdo _ _ HLE.out)
    obtain ⟨c, hk⟩ : ∃ c, c = kidO vc := ⟨_, rfl⟩
    rw [← hk]
    have HKc := hidden hk
    clear hdo hgot hk
    go_wp2_with (at_builtin; refine wpList_kid rfl (.tmp 74) (.tmp 77) rfl w.heap.size wd (.slice (some ⟨GG, 0, none⟩) 2 2) [a, b] c rfl rfl HP.out.now HP.out.fr.size (by simp) ?_; intro v3 w6 h3 hg3 hw3; obtain ⟨va, vc3, hv3⟩ := own_shape5 h3; obtain ⟨R3, hr3⟩ := HP.out.push (k := c) (by rw [HKc.out]; exact HTc.out.kidIn) h3 hg3 hw3; have HR3 := hidden hr3; clear hr3 h3 hg3 hw3; rw [show ([a, b] ++ [c] : List Int).length = 3 from rfl] at hv3; subst hv3)
    refine (HR3.out.lay 15 0 ⟨#[]⟩ ta HBO.out (HLc.out.self) (by simp)).mono ?_
    rintro en wz ⟨u, Rz, hdu, hgot, _⟩
    obtain rfl := hgot.en
    have HDU := hidden hdu
    have HGOT := hidden hgot
    clear hdu hgot
    go_wp2_with fail
    go_ret
    refine ⟨u, Rz, ?_, ⟨HGOT.out.run, rfl, HGOT.out.tell.back ((HGA.out.trans HGE.out).trans HTc.out.grow)⟩⟩
    refine Does.ex HDa.out ?_
    rw [← HO1.out, ← HKa.out]
    refine Does.go (G := fun b s2 m => if s2.is wElse then Out.go (prd m .block d s2.next) fun c s3 => some (lay (En 15 [a, b, hd1 c] 0 ⟨#[]⟩ (ta : Int)) s3) else some (lay (En 15 [a, b] 0 ⟨#[]⟩ (ta : Int)) s2)) HDb.out ?_
    rw [← HO2.out, ← HKb.out]
    refine Does.ite_yes (X := fun s3 m => Out.go (prd m .block d s3) fun c s4 => some (lay (En 15 [a, b, hd1 c] 0 ⟨#[]⟩ (ta : Int)) s4)) HSS.out HBB.out ?_
    refine Does.go (G := fun c s4 _ => some (lay (En 15 [a, b, c] 0 ⟨#[]⟩ (ta : Int)) s4)) HDc.out ?_
    rw [← HKc.out]
    exact HDU.out
  · rw [ho] at ha
    replace HP := hidden (HP.out.step ha hf (fun _ h => h) (Grow.refl _))
    have HBB := hidden hb
    clear ha hf hb ho
    go_wp2_with fail
    refine (HP.out.lay 15 0 ⟨#[]⟩ ta HBO.out (HL2.out.self) (by simp)).mono ?_
    rintro en wz ⟨u, Rz, hdu, hgot, _⟩
    obtain rfl := hgot.en
    have HDU := hidden hdu
    have HGOT := hidden hgot
    clear hdu hgot
    go_wp2_with fail
    go_ret
    refine ⟨u, Rz, ?_, ⟨HGOT.out.run, rfl, HGOT.out.tell.back HGA.out⟩⟩
    refine Does.ex HDa.out ?_
    rw [← HO1.out, ← HKa.out]
    refine Does.go (G := fun b s2 m => if s2.is wElse then Out.go (prd m .block d s2.next) fun c s3 => some (lay (En 15 [a, b, hd1 c] 0 ⟨#[]⟩ (ta : Int)) s3) else some (lay (En 15 [a, b] 0 ⟨#[]⟩ (ta : Int)) s2)) HDb.out ?_
    rw [← HO2.out, ← HKb.out]
    exact Does.ite_no (X := fun s3 m => Out.go (prd m .block d s3.next) fun c s4 => some (lay (En 15 [a, b, hd1 c] 0 ⟨#[]⟩ (ta : Int)) s4)) HBB.out HDU.out
/-- the words in the reference's order -/
def stWords : List (List UInt8) := [wVar, wFor, wBreak, wCont, wRet, wPrint, wWhile, wIf]
def wordF (i a d : Nat) : PS → Nat → Option Out := match i with
  | 0 => letF d
  | 1 => forF d
  | 2 => endF 18 a
  | 3 => endF 19 a
  | 4 => valF 20 a d
  | 5 => valF 21 a d
  | 6 => whileF a d
  | _ => ifF a d
theorem qword_all (ta i : Nat) (hi : i < 8) (hB : QBlockC B g L M) (H : QAny B g L w R d o) (hd : d ≤ 200) (hl : Lim o L.length M) : Calls Tryz.prog 79 #[.pointer (some ⟨g, 0, none⟩), .string ⟨(stWords.getD i []).toArray⟩, .int .i64 (ta : Int)] w (QDone B g L w R d o (wordF i ta d)) := by
  match i, hi with
  | 0, _ => exact qword_var ta H hd hl
  | 1, _ => exact qword_for ta hB H hd hl
  | 2, _ => exact qword_break ta H hd hl
  | 3, _ => exact qword_cont ta H hd hl
  | 4, _ => exact qword_ret ta H hd hl
  | 5, _ => exact qword_print ta H hd hl
  | 6, _ => exact qword_while ta hB H hd hl
  | 7, _ => exact qword_if ta hB H hd hl
theorem Does.word {s : PS} {i : Nat} {u : Out} (hi : i < 8) (hs : s.is (stWords.getD i []) = true) (h : Does (.ok s.next) (wordF i s.tok.place d) u) : Does (.ok s) (fun s n => Go.Proofs.YtagacfcpepoaoaaGreatDoor.prd n .stmt d s) u := by
  match i, hi with
  | 0, _ => exact (PReads.let_ (st_var hs) h).ev
  | 1, _ => exact (PReads.for_ (st_for hs) h).ev
  | 2, _ => exact (PReads.break_ (st_break hs) h).ev
  | 3, _ => exact (PReads.cont (st_cont hs) h).ev
  | 4, _ => exact (PReads.ret (st_ret hs) h).ev
  | 5, _ => exact (PReads.print (st_print hs) h).ev
  | 6, _ => exact (PReads.while_ (st_while hs) h).ev
  | 7, _ => exact (PReads.if_ (st_if hs) h).ev
theorem st_none' {s : PS} (h : ∀ j, j < 8 → s.is (stWords.getD j []) = false) : stAt s.tok = 0 := by
  refine st_none fun j hj => ?_
  match j, hj with
  | 0, _ => exact h 0 (by decide)
  | 1, _ => exact h 7 (by decide)
  | 2, _ => exact h 6 (by decide)
  | 3, _ => exact h 1 (by decide)
  | 4, _ => exact h 2 (by decide)
  | 5, _ => exact h 3 (by decide)
  | 6, _ => exact h 4 (by decide)
  | 7, _ => exact h 5 (by decide)
end Go.Proofs.YtagacfcpepoaoaaGreatDoor
