/- The walk through a statement. -/
import Derived.Test.YtagacfcpepoaoaaGreatDoorMIfFor
import Derived.Test.YtagacfcpepoaoaaGreatDoorParseName
import Derived.Laws.EntriesVeiled
namespace Go.Proofs.YtagacfcpepoaoaaGreatDoor
open Go.RowKit
set_option linter.unusedVariables false

variable {B g P T N : Nat} {L : List Tk} {w0 w w' : World} {R0 R R' : Bx} {d : Nat} {o : Except Flt PS} {v : Value} {acc : List Int} {K n : Int} {S : ByteArray}
/-- a statement that is read, while few tokens are left -/
def CStmt (B g P T : Nat) (L : List Tk) (M : Nat) : Prop := ∀ (w : World) (R : Bx) (d : Nat) (o : Except Flt PS), Any B g L w R d o → Par w g P T → (∀ s, o = .ok s → d ≤ 200) → Lim o L.length M →
  Calls Tryz.prog 92 #[.pointer (some ⟨P, 0, none⟩)] w fun en w' => ∃ u R', Does o (fun s n => prd n .stmt d s) u ∧ Came B g L w R d u en w' R' ∧ ∀ n m, Lim o (n + 1) (m + 1) → Lim (toO u) (n + 1) m
theorem Pre.came (H : Pre B g P T L w0 R0 d w R o v acc) {u : Out} {en : Ending} (C : Came B g L w R d u en w' R') : Came B g L w0 R0 d u en w' { R' with Z := R0.Z } :=
  ⟨(H.fr.trans C.fr).right _, rfl, C.en, C.any.less _ (fun k hk => by rw [C.z]; exact H.z0 k hk)⟩
theorem Pre.toStart (H : Pre B g P T L w0 R0 d w R o v acc) : Pre B g P T L w R d w R o (.slice none 0 0) [] := Pre.start H.any H.par
set_option maxRecDepth 100000 in
set_option maxHeartbeats 20000000 in
theorem stmt_of {M : Nat} (hB : ∀ m, m < M → CBlock B g P T L m) (H : Any B g L w R d o) (hP : Par w g P T) (hd : ∀ s, o = .ok s → d ≤ 200) (hl : Lim o L.length M) :
    Calls Tryz.prog 92 #[.pointer (some ⟨P, 0, none⟩)] w fun en w' => ∃ u R', Does o (fun s n => prd n .stmt d s) u ∧ Came B g L w R d u en w' R' ∧ ∀ n m, Lim o (n + 1) (m + 1) → Lim (toO u) (n + 1) m := by
  have HR := hidden (Pre.start H hP)
  have HBL := hidden hB
  have HDD := hidden hd
  have HL := hidden hl
  have hfd := field_at
  have hp := HR.out.par.c0
  have hp1 := HR.out.par.c1
  clear H hP hd hl hB
  go_enter Tryz.func92, Tryz.ntmps92
  go_wp2_with fail
  refine (any_token HR.out.any).mono ?_
  rintro en w1 ⟨tk, tn, ta, tx, rfl, hta, hb⟩
  replace HR := hidden (HR.out.below hb)
  have HTA := hidden hta
  clear hb hta hp hp1
  have hp1 := HR.out.par.c1
  go_wp2_with fail
  clear hp1
  go_loopw [17] (fun t17 wr => ∃ i : Nat, i ≤ 8 ∧ t17 = .int .i64 (i : Int) ∧ Hid (Pre B g P T L w R d wr R o (.slice none 0 0) []) ∧ Hid (∀ s, o = .ok s → ∀ j, 0 ≤ j → j < i → s.is (tWord j) = false)) (fun t17 _ => 8 - (intOf t17).toNat)
  case atStart => exact ⟨0, by omega, rfl, HR, fun s hs j h1 h2 => by omega⟩
  case round =>
    obtain ⟨i, h8, rfl, HX, HN⟩ := hrel
    clear HR
    by_cases hi : i < 8
    · have h3 : i = 0 ∨ i = 1 ∨ i = 2 ∨ i = 3 ∨ i = 4 ∨ i = 5 ∨ i = 6 ∨ i = 7 := by omega
      rcases h3 with rfl | rfl | rfl | rfl | rfl | rfl | rfl | rfl
      · have r0 : wr.cell? ⟨T, 0, none⟩ = some (.string ⟨#[118, 97, 114]⟩) := HX.out.par.tab.at_ rfl
        have r1 : wr.cell? ⟨T, 1, none⟩ = some (.int .i64 12) := HX.out.par.tab.at_ rfl
        have r2 : wr.cell? ⟨T, 2, none⟩ = some (.func (.func 34) #[.pointer (some ⟨P, 0, none⟩)] #[]) := HX.out.par.tab.at_ rfl
        obtain ⟨W, hW⟩ : ∃ W, W = wr.alloc (.cells #[.string ⟨#[118, 97, 114]⟩, .int .i64 12, .func (.func 34) #[.pointer (some ⟨P, 0, none⟩)] #[]] 71) := ⟨_, rfl⟩
        obtain ⟨G, hG⟩ : ∃ G, G = wr.heap.size := ⟨_, rfl⟩
        have HG : Hid (Held W G 71 #[.string ⟨#[118, 97, 114]⟩, .int .i64 12, .func (.func 34) #[.pointer (some ⟨P, 0, none⟩)] #[]]) := by rw [hW, hG]; exact Held.new _ _ _
        have hbw : Below wr.heap.size wr W := by rw [hW]; exact (Below.refl _ _).alloc (Nat.le_refl _) _
        have HXW := hidden (HX.out.below hbw)
        clear hbw
        go_wp2_with fail
        rw [← hW, ← hG]
        clear hW hG r0 r1 r2
        have hp := HXW.out.par.c0
        have g0 : W.cell? ⟨G, 0, none⟩ = some (.string ⟨#[118, 97, 114]⟩) := HG.out.at_ rfl
        go_still_tail 6, (by kernel_rfl)
        change wpList _ _ _ _ _ W.drew
        have HD := hidden (HXW.out.below (below_drew W))
        replace HG := hidden (HG.out.block (w' := W.drew) rfl)
        clear hp g0
        go_wp2_with fail
        refine (any_skip (tWord 0) HD.out.any).mono ?_
        rintro en w2 ⟨c, o', rfl, ha, hf, hc⟩
        replace HG := hidden (HD.out.any.held hf HG.out (by decide) (by decide) (HD.out.any.vn_ne HG.out (by decide)))
        have HY := hidden (HD.out.step ha hf rfl)
        clear ha hf
        rcases hc with ⟨rfl, s, hs, hb, ho⟩ | ⟨rfl, ho, hb⟩
        · have HB := hidden hb
          have HO := hidden ho
          have HS := hidden hs
          rw [ho] at HY
          have HDS : Hid (d ≤ 200) := HDD.out s hs
          have HM : Hid (1 ≤ M) := by have h1 := (HL.out s hs).2; have h2 := is_some hb; show 1 ≤ M; omega
          have HLN : Hid (Lim (.ok s.next) L.length (M - 1)) := by have h1 := HL.out; rw [hs] at h1; exact (h1.next_le hb).mono (by omega) (by omega)
          have HBM : Hid (CBlock B g P T L (M - 1)) := HBL.out (M - 1) (by have := HM.out; omega)
          have g1 : w2.cell? ⟨G, 1, none⟩ = some (.int .i64 12) := HG.out.at_ rfl
          have g2 : w2.cell? ⟨G, 2, none⟩ = some (.func (.func 34) #[.pointer (some ⟨P, 0, none⟩)] #[]) := HG.out.at_ rfl
          clear hb ho hs HG
          go_wp2_with fail
          refine (let_any (a := ta) HY.out.any HY.out.par (fun s1 h1 => HDS.out) HLN.out.self).mono ?_
          rintro en w5 ⟨u2, R5, hd2, hc2, hl2⟩
          obtain rfl := hc2.en
          have HC2 := hidden (HY.out.came hc2)
          have HL2 : Hid (∀ n m, Lim (.ok s.next) n m → Lim (toO u2) (n + 1) m) := fun n m h => hl2 n m h
          have HD2 := hidden hd2
          clear hd2 hc2 hl2 g1 g2
          go_wp2_with fail
          go_ret
          have hs := HS.out
          subst hs
          have ht := (HTA.out s rfl).2
          subst ht
          exact ⟨u2, _, (PReads.let_ (st_var HB.out) HD2.out).ev, HC2.out, fun n m h => HL2.out n m (h.next HB.out)⟩
        · have HB := hidden hb
          rw [ho] at HY
          clear ho hb HG
          go_wp2_with fail
          go_roundw
          case rel => exact ⟨0 + 1, by decide, by go_num, HY, fun s hs => upto_next (X := fun j => s.is (tWord j)) (HN.out s hs) (HB.out s hs)⟩
          case measure => simp [intOf]
      · have r0 : wr.cell? ⟨T, 3, none⟩ = some (.string ⟨#[105, 102]⟩) := HX.out.par.tab.at_ rfl
        have r1 : wr.cell? ⟨T, 4, none⟩ = some (.int .i64 15) := HX.out.par.tab.at_ rfl
        have r2 : wr.cell? ⟨T, 5, none⟩ = some (.func (.func 35) #[.pointer (some ⟨P, 0, none⟩)] #[]) := HX.out.par.tab.at_ rfl
        obtain ⟨W, hW⟩ : ∃ W, W = wr.alloc (.cells #[.string ⟨#[105, 102]⟩, .int .i64 15, .func (.func 35) #[.pointer (some ⟨P, 0, none⟩)] #[]] 71) := ⟨_, rfl⟩
        obtain ⟨G, hG⟩ : ∃ G, G = wr.heap.size := ⟨_, rfl⟩
        have HG : Hid (Held W G 71 #[.string ⟨#[105, 102]⟩, .int .i64 15, .func (.func 35) #[.pointer (some ⟨P, 0, none⟩)] #[]]) := by rw [hW, hG]; exact Held.new _ _ _
        have hbw : Below wr.heap.size wr W := by rw [hW]; exact (Below.refl _ _).alloc (Nat.le_refl _) _
        have HXW := hidden (HX.out.below hbw)
        clear hbw
        go_wp2_with fail
        rw [← hW, ← hG]
        clear hW hG r0 r1 r2
        have hp := HXW.out.par.c0
        have g0 : W.cell? ⟨G, 0, none⟩ = some (.string ⟨#[105, 102]⟩) := HG.out.at_ rfl
        go_still_tail 6, (by kernel_rfl)
        change wpList _ _ _ _ _ W.drew
        have HD := hidden (HXW.out.below (below_drew W))
        replace HG := hidden (HG.out.block (w' := W.drew) rfl)
        clear hp g0
        go_wp2_with fail
        refine (any_skip (tWord 1) HD.out.any).mono ?_
        rintro en w2 ⟨c, o', rfl, ha, hf, hc⟩
        replace HG := hidden (HD.out.any.held hf HG.out (by decide) (by decide) (HD.out.any.vn_ne HG.out (by decide)))
        have HY := hidden (HD.out.step ha hf rfl)
        clear ha hf
        rcases hc with ⟨rfl, s, hs, hb, ho⟩ | ⟨rfl, ho, hb⟩
        · have HB := hidden hb
          have HO := hidden ho
          have HS := hidden hs
          rw [ho] at HY
          have HDS : Hid (d ≤ 200) := HDD.out s hs
          have HM : Hid (1 ≤ M) := by have h1 := (HL.out s hs).2; have h2 := is_some hb; show 1 ≤ M; omega
          have HLN : Hid (Lim (.ok s.next) L.length (M - 1)) := by have h1 := HL.out; rw [hs] at h1; exact (h1.next_le hb).mono (by omega) (by omega)
          have HBM : Hid (CBlock B g P T L (M - 1)) := HBL.out (M - 1) (by have := HM.out; omega)
          have g1 : w2.cell? ⟨G, 1, none⟩ = some (.int .i64 15) := HG.out.at_ rfl
          have g2 : w2.cell? ⟨G, 2, none⟩ = some (.func (.func 35) #[.pointer (some ⟨P, 0, none⟩)] #[]) := HG.out.at_ rfl
          clear hb ho hs HG
          go_wp2_with fail
          refine (choice_any (a := ta) HBM.out HY.out.any HY.out.par HDS.out HLN.out).mono ?_
          rintro en w5 ⟨u2, R5, hd2, hc2, hl2⟩
          obtain rfl := hc2.en
          have HC2 := hidden (HY.out.came hc2)
          have HL2 : Hid (∀ n m, Lim (.ok s.next) n m → Lim (toO u2) (n + 1) m) := fun n m h => hl2 n m h
          have HD2 := hidden hd2
          clear hd2 hc2 hl2 g1 g2
          go_wp2_with fail
          go_ret
          have hs := HS.out
          subst hs
          have ht := (HTA.out s rfl).2
          subst ht
          exact ⟨u2, _, (PReads.if_ (st_if HB.out) HD2.out).ev, HC2.out, fun n m h => HL2.out n m (h.next HB.out)⟩
        · have HB := hidden hb
          rw [ho] at HY
          clear ho hb HG
          go_wp2_with fail
          go_roundw
          case rel => exact ⟨1 + 1, by decide, by go_num, HY, fun s hs => upto_next (X := fun j => s.is (tWord j)) (HN.out s hs) (HB.out s hs)⟩
          case measure => simp [intOf]
      · have r0 : wr.cell? ⟨T, 6, none⟩ = some (.string ⟨#[119, 104, 105, 108, 101]⟩) := HX.out.par.tab.at_ rfl
        have r1 : wr.cell? ⟨T, 7, none⟩ = some (.int .i64 16) := HX.out.par.tab.at_ rfl
        have r2 : wr.cell? ⟨T, 8, none⟩ = some (.func (.func 36) #[.pointer (some ⟨P, 0, none⟩)] #[]) := HX.out.par.tab.at_ rfl
        obtain ⟨W, hW⟩ : ∃ W, W = wr.alloc (.cells #[.string ⟨#[119, 104, 105, 108, 101]⟩, .int .i64 16, .func (.func 36) #[.pointer (some ⟨P, 0, none⟩)] #[]] 71) := ⟨_, rfl⟩
        obtain ⟨G, hG⟩ : ∃ G, G = wr.heap.size := ⟨_, rfl⟩
        have HG : Hid (Held W G 71 #[.string ⟨#[119, 104, 105, 108, 101]⟩, .int .i64 16, .func (.func 36) #[.pointer (some ⟨P, 0, none⟩)] #[]]) := by rw [hW, hG]; exact Held.new _ _ _
        have hbw : Below wr.heap.size wr W := by rw [hW]; exact (Below.refl _ _).alloc (Nat.le_refl _) _
        have HXW := hidden (HX.out.below hbw)
        clear hbw
        go_wp2_with fail
        rw [← hW, ← hG]
        clear hW hG r0 r1 r2
        have hp := HXW.out.par.c0
        have g0 : W.cell? ⟨G, 0, none⟩ = some (.string ⟨#[119, 104, 105, 108, 101]⟩) := HG.out.at_ rfl
        go_still_tail 6, (by kernel_rfl)
        change wpList _ _ _ _ _ W.drew
        have HD := hidden (HXW.out.below (below_drew W))
        replace HG := hidden (HG.out.block (w' := W.drew) rfl)
        clear hp g0
        go_wp2_with fail
        refine (any_skip (tWord 2) HD.out.any).mono ?_
        rintro en w2 ⟨c, o', rfl, ha, hf, hc⟩
        replace HG := hidden (HD.out.any.held hf HG.out (by decide) (by decide) (HD.out.any.vn_ne HG.out (by decide)))
        have HY := hidden (HD.out.step ha hf rfl)
        clear ha hf
        rcases hc with ⟨rfl, s, hs, hb, ho⟩ | ⟨rfl, ho, hb⟩
        · have HB := hidden hb
          have HO := hidden ho
          have HS := hidden hs
          rw [ho] at HY
          have HDS : Hid (d ≤ 200) := HDD.out s hs
          have HM : Hid (1 ≤ M) := by have h1 := (HL.out s hs).2; have h2 := is_some hb; show 1 ≤ M; omega
          have HLN : Hid (Lim (.ok s.next) L.length (M - 1)) := by have h1 := HL.out; rw [hs] at h1; exact (h1.next_le hb).mono (by omega) (by omega)
          have HBM : Hid (CBlock B g P T L (M - 1)) := HBL.out (M - 1) (by have := HM.out; omega)
          have g1 : w2.cell? ⟨G, 1, none⟩ = some (.int .i64 16) := HG.out.at_ rfl
          have g2 : w2.cell? ⟨G, 2, none⟩ = some (.func (.func 36) #[.pointer (some ⟨P, 0, none⟩)] #[]) := HG.out.at_ rfl
          clear hb ho hs HG
          go_wp2_with fail
          refine (repeat_any (a := ta) HBM.out HY.out.any HY.out.par HDS.out HLN.out).mono ?_
          rintro en w5 ⟨u2, R5, hd2, hc2, hl2⟩
          obtain rfl := hc2.en
          have HC2 := hidden (HY.out.came hc2)
          have HL2 : Hid (∀ n m, Lim (.ok s.next) n m → Lim (toO u2) (n + 1) m) := fun n m h => hl2 n m h
          have HD2 := hidden hd2
          clear hd2 hc2 hl2 g1 g2
          go_wp2_with fail
          go_ret
          have hs := HS.out
          subst hs
          have ht := (HTA.out s rfl).2
          subst ht
          exact ⟨u2, _, (PReads.while_ (st_while HB.out) HD2.out).ev, HC2.out, fun n m h => HL2.out n m (h.next HB.out)⟩
        · have HB := hidden hb
          rw [ho] at HY
          clear ho hb HG
          go_wp2_with fail
          go_roundw
          case rel => exact ⟨2 + 1, by decide, by go_num, HY, fun s hs => upto_next (X := fun j => s.is (tWord j)) (HN.out s hs) (HB.out s hs)⟩
          case measure => simp [intOf]
      · have r0 : wr.cell? ⟨T, 9, none⟩ = some (.string ⟨#[102, 111, 114]⟩) := HX.out.par.tab.at_ rfl
        have r1 : wr.cell? ⟨T, 10, none⟩ = some (.int .i64 17) := HX.out.par.tab.at_ rfl
        have r2 : wr.cell? ⟨T, 11, none⟩ = some (.func (.func 37) #[.pointer (some ⟨P, 0, none⟩)] #[]) := HX.out.par.tab.at_ rfl
        obtain ⟨W, hW⟩ : ∃ W, W = wr.alloc (.cells #[.string ⟨#[102, 111, 114]⟩, .int .i64 17, .func (.func 37) #[.pointer (some ⟨P, 0, none⟩)] #[]] 71) := ⟨_, rfl⟩
        obtain ⟨G, hG⟩ : ∃ G, G = wr.heap.size := ⟨_, rfl⟩
        have HG : Hid (Held W G 71 #[.string ⟨#[102, 111, 114]⟩, .int .i64 17, .func (.func 37) #[.pointer (some ⟨P, 0, none⟩)] #[]]) := by rw [hW, hG]; exact Held.new _ _ _
        have hbw : Below wr.heap.size wr W := by rw [hW]; exact (Below.refl _ _).alloc (Nat.le_refl _) _
        have HXW := hidden (HX.out.below hbw)
        clear hbw
        go_wp2_with fail
        rw [← hW, ← hG]
        clear hW hG r0 r1 r2
        have hp := HXW.out.par.c0
        have g0 : W.cell? ⟨G, 0, none⟩ = some (.string ⟨#[102, 111, 114]⟩) := HG.out.at_ rfl
        go_still_tail 6, (by kernel_rfl)
        change wpList _ _ _ _ _ W.drew
        have HD := hidden (HXW.out.below (below_drew W))
        replace HG := hidden (HG.out.block (w' := W.drew) rfl)
        clear hp g0
        go_wp2_with fail
        refine (any_skip (tWord 3) HD.out.any).mono ?_
        rintro en w2 ⟨c, o', rfl, ha, hf, hc⟩
        replace HG := hidden (HD.out.any.held hf HG.out (by decide) (by decide) (HD.out.any.vn_ne HG.out (by decide)))
        have HY := hidden (HD.out.step ha hf rfl)
        clear ha hf
        rcases hc with ⟨rfl, s, hs, hb, ho⟩ | ⟨rfl, ho, hb⟩
        · have HB := hidden hb
          have HO := hidden ho
          have HS := hidden hs
          rw [ho] at HY
          have HDS : Hid (d ≤ 200) := HDD.out s hs
          have HM : Hid (1 ≤ M) := by have h1 := (HL.out s hs).2; have h2 := is_some hb; show 1 ≤ M; omega
          have HLN : Hid (Lim (.ok s.next) L.length (M - 1)) := by have h1 := HL.out; rw [hs] at h1; exact (h1.next_le hb).mono (by omega) (by omega)
          have HBM : Hid (CBlock B g P T L (M - 1)) := HBL.out (M - 1) (by have := HM.out; omega)
          have g1 : w2.cell? ⟨G, 1, none⟩ = some (.int .i64 17) := HG.out.at_ rfl
          have g2 : w2.cell? ⟨G, 2, none⟩ = some (.func (.func 37) #[.pointer (some ⟨P, 0, none⟩)] #[]) := HG.out.at_ rfl
          clear hb ho hs HG
          go_wp2_with fail
          refine (count_any (a := ta) HBM.out HY.out.any HY.out.par HDS.out HLN.out).mono ?_
          rintro en w5 ⟨u2, R5, hd2, hc2, hl2⟩
          obtain rfl := hc2.en
          have HC2 := hidden (HY.out.came hc2)
          have HL2 : Hid (∀ n m, Lim (.ok s.next) n m → Lim (toO u2) (n + 1) m) := fun n m h => hl2 n m h
          have HD2 := hidden hd2
          clear hd2 hc2 hl2 g1 g2
          go_wp2_with fail
          go_ret
          have hs := HS.out
          subst hs
          have ht := (HTA.out s rfl).2
          subst ht
          exact ⟨u2, _, (PReads.for_ (st_for HB.out) HD2.out).ev, HC2.out, fun n m h => HL2.out n m (h.next HB.out)⟩
        · have HB := hidden hb
          rw [ho] at HY
          clear ho hb HG
          go_wp2_with fail
          go_roundw
          case rel => exact ⟨3 + 1, by decide, by go_num, HY, fun s hs => upto_next (X := fun j => s.is (tWord j)) (HN.out s hs) (HB.out s hs)⟩
          case measure => simp [intOf]
      · have r0 : wr.cell? ⟨T, 12, none⟩ = some (.string ⟨#[98, 114, 101, 97, 107]⟩) := HX.out.par.tab.at_ rfl
        have r1 : wr.cell? ⟨T, 13, none⟩ = some (.int .i64 18) := HX.out.par.tab.at_ rfl
        have r2 : wr.cell? ⟨T, 14, none⟩ = some (.func (.func 38) #[.pointer (some ⟨P, 0, none⟩)] #[]) := HX.out.par.tab.at_ rfl
        obtain ⟨W, hW⟩ : ∃ W, W = wr.alloc (.cells #[.string ⟨#[98, 114, 101, 97, 107]⟩, .int .i64 18, .func (.func 38) #[.pointer (some ⟨P, 0, none⟩)] #[]] 71) := ⟨_, rfl⟩
        obtain ⟨G, hG⟩ : ∃ G, G = wr.heap.size := ⟨_, rfl⟩
        have HG : Hid (Held W G 71 #[.string ⟨#[98, 114, 101, 97, 107]⟩, .int .i64 18, .func (.func 38) #[.pointer (some ⟨P, 0, none⟩)] #[]]) := by rw [hW, hG]; exact Held.new _ _ _
        have hbw : Below wr.heap.size wr W := by rw [hW]; exact (Below.refl _ _).alloc (Nat.le_refl _) _
        have HXW := hidden (HX.out.below hbw)
        clear hbw
        go_wp2_with fail
        rw [← hW, ← hG]
        clear hW hG r0 r1 r2
        have hp := HXW.out.par.c0
        have g0 : W.cell? ⟨G, 0, none⟩ = some (.string ⟨#[98, 114, 101, 97, 107]⟩) := HG.out.at_ rfl
        go_still_tail 6, (by kernel_rfl)
        change wpList _ _ _ _ _ W.drew
        have HD := hidden (HXW.out.below (below_drew W))
        replace HG := hidden (HG.out.block (w' := W.drew) rfl)
        clear hp g0
        go_wp2_with fail
        refine (any_skip (tWord 4) HD.out.any).mono ?_
        rintro en w2 ⟨c, o', rfl, ha, hf, hc⟩
        replace HG := hidden (HD.out.any.held hf HG.out (by decide) (by decide) (HD.out.any.vn_ne HG.out (by decide)))
        have HY := hidden (HD.out.step ha hf rfl)
        clear ha hf
        rcases hc with ⟨rfl, s, hs, hb, ho⟩ | ⟨rfl, ho, hb⟩
        · have HB := hidden hb
          have HO := hidden ho
          have HS := hidden hs
          rw [ho] at HY
          have HDS : Hid (d ≤ 200) := HDD.out s hs
          have HM : Hid (1 ≤ M) := by have h1 := (HL.out s hs).2; have h2 := is_some hb; show 1 ≤ M; omega
          have HLN : Hid (Lim (.ok s.next) L.length (M - 1)) := by have h1 := HL.out; rw [hs] at h1; exact (h1.next_le hb).mono (by omega) (by omega)
          have HBM : Hid (CBlock B g P T L (M - 1)) := HBL.out (M - 1) (by have := HM.out; omega)
          have g1 : w2.cell? ⟨G, 1, none⟩ = some (.int .i64 18) := HG.out.at_ rfl
          have g2 : w2.cell? ⟨G, 2, none⟩ = some (.func (.func 38) #[.pointer (some ⟨P, 0, none⟩)] #[]) := HG.out.at_ rfl
          clear hb ho hs HG
          go_wp2_with fail
          refine (end_any (a := ta) HY.out.toStart HLN.out.self (by simp)).mono ?_
          rintro en w5 ⟨u2, R5, hd2, hc2, hl2⟩
          obtain rfl := hc2.en
          have HC2 := hidden (HY.out.came hc2)
          have HL2 : Hid (∀ n m, Lim (.ok s.next) n m → Lim (toO u2) (n + 1) m) := fun n m h => hl2 n m (h.mono (by omega) (by omega))
          have HD2 := hidden hd2
          clear hd2 hc2 hl2 g1 g2
          go_wp2_with fail
          go_ret
          have hs := HS.out
          subst hs
          have ht := (HTA.out s rfl).2
          subst ht
          exact ⟨u2, _, (PReads.break_ (st_break HB.out) HD2.out).ev, HC2.out, fun n m h => HL2.out n m (h.next HB.out)⟩
        · have HB := hidden hb
          rw [ho] at HY
          clear ho hb HG
          go_wp2_with fail
          go_roundw
          case rel => exact ⟨4 + 1, by decide, by go_num, HY, fun s hs => upto_next (X := fun j => s.is (tWord j)) (HN.out s hs) (HB.out s hs)⟩
          case measure => simp [intOf]
      · have r0 : wr.cell? ⟨T, 15, none⟩ = some (.string ⟨#[99, 111, 110, 116, 105, 110, 117, 101]⟩) := HX.out.par.tab.at_ rfl
        have r1 : wr.cell? ⟨T, 16, none⟩ = some (.int .i64 19) := HX.out.par.tab.at_ rfl
        have r2 : wr.cell? ⟨T, 17, none⟩ = some (.func (.func 38) #[.pointer (some ⟨P, 0, none⟩)] #[]) := HX.out.par.tab.at_ rfl
        obtain ⟨W, hW⟩ : ∃ W, W = wr.alloc (.cells #[.string ⟨#[99, 111, 110, 116, 105, 110, 117, 101]⟩, .int .i64 19, .func (.func 38) #[.pointer (some ⟨P, 0, none⟩)] #[]] 71) := ⟨_, rfl⟩
        obtain ⟨G, hG⟩ : ∃ G, G = wr.heap.size := ⟨_, rfl⟩
        have HG : Hid (Held W G 71 #[.string ⟨#[99, 111, 110, 116, 105, 110, 117, 101]⟩, .int .i64 19, .func (.func 38) #[.pointer (some ⟨P, 0, none⟩)] #[]]) := by rw [hW, hG]; exact Held.new _ _ _
        have hbw : Below wr.heap.size wr W := by rw [hW]; exact (Below.refl _ _).alloc (Nat.le_refl _) _
        have HXW := hidden (HX.out.below hbw)
        clear hbw
        go_wp2_with fail
        rw [← hW, ← hG]
        clear hW hG r0 r1 r2
        have hp := HXW.out.par.c0
        have g0 : W.cell? ⟨G, 0, none⟩ = some (.string ⟨#[99, 111, 110, 116, 105, 110, 117, 101]⟩) := HG.out.at_ rfl
        go_still_tail 6, (by kernel_rfl)
        change wpList _ _ _ _ _ W.drew
        have HD := hidden (HXW.out.below (below_drew W))
        replace HG := hidden (HG.out.block (w' := W.drew) rfl)
        clear hp g0
        go_wp2_with fail
        refine (any_skip (tWord 5) HD.out.any).mono ?_
        rintro en w2 ⟨c, o', rfl, ha, hf, hc⟩
        replace HG := hidden (HD.out.any.held hf HG.out (by decide) (by decide) (HD.out.any.vn_ne HG.out (by decide)))
        have HY := hidden (HD.out.step ha hf rfl)
        clear ha hf
        rcases hc with ⟨rfl, s, hs, hb, ho⟩ | ⟨rfl, ho, hb⟩
        · have HB := hidden hb
          have HO := hidden ho
          have HS := hidden hs
          rw [ho] at HY
          have HDS : Hid (d ≤ 200) := HDD.out s hs
          have HM : Hid (1 ≤ M) := by have h1 := (HL.out s hs).2; have h2 := is_some hb; show 1 ≤ M; omega
          have HLN : Hid (Lim (.ok s.next) L.length (M - 1)) := by have h1 := HL.out; rw [hs] at h1; exact (h1.next_le hb).mono (by omega) (by omega)
          have HBM : Hid (CBlock B g P T L (M - 1)) := HBL.out (M - 1) (by have := HM.out; omega)
          have g1 : w2.cell? ⟨G, 1, none⟩ = some (.int .i64 19) := HG.out.at_ rfl
          have g2 : w2.cell? ⟨G, 2, none⟩ = some (.func (.func 38) #[.pointer (some ⟨P, 0, none⟩)] #[]) := HG.out.at_ rfl
          clear hb ho hs HG
          go_wp2_with fail
          refine (end_any (a := ta) HY.out.toStart HLN.out.self (by simp)).mono ?_
          rintro en w5 ⟨u2, R5, hd2, hc2, hl2⟩
          obtain rfl := hc2.en
          have HC2 := hidden (HY.out.came hc2)
          have HL2 : Hid (∀ n m, Lim (.ok s.next) n m → Lim (toO u2) (n + 1) m) := fun n m h => hl2 n m (h.mono (by omega) (by omega))
          have HD2 := hidden hd2
          clear hd2 hc2 hl2 g1 g2
          go_wp2_with fail
          go_ret
          have hs := HS.out
          subst hs
          have ht := (HTA.out s rfl).2
          subst ht
          exact ⟨u2, _, (PReads.cont (st_cont HB.out) HD2.out).ev, HC2.out, fun n m h => HL2.out n m (h.next HB.out)⟩
        · have HB := hidden hb
          rw [ho] at HY
          clear ho hb HG
          go_wp2_with fail
          go_roundw
          case rel => exact ⟨5 + 1, by decide, by go_num, HY, fun s hs => upto_next (X := fun j => s.is (tWord j)) (HN.out s hs) (HB.out s hs)⟩
          case measure => simp [intOf]
      · have r0 : wr.cell? ⟨T, 18, none⟩ = some (.string ⟨#[114, 101, 116, 117, 114, 110]⟩) := HX.out.par.tab.at_ rfl
        have r1 : wr.cell? ⟨T, 19, none⟩ = some (.int .i64 20) := HX.out.par.tab.at_ rfl
        have r2 : wr.cell? ⟨T, 20, none⟩ = some (.func (.func 39) #[.pointer (some ⟨P, 0, none⟩)] #[]) := HX.out.par.tab.at_ rfl
        obtain ⟨W, hW⟩ : ∃ W, W = wr.alloc (.cells #[.string ⟨#[114, 101, 116, 117, 114, 110]⟩, .int .i64 20, .func (.func 39) #[.pointer (some ⟨P, 0, none⟩)] #[]] 71) := ⟨_, rfl⟩
        obtain ⟨G, hG⟩ : ∃ G, G = wr.heap.size := ⟨_, rfl⟩
        have HG : Hid (Held W G 71 #[.string ⟨#[114, 101, 116, 117, 114, 110]⟩, .int .i64 20, .func (.func 39) #[.pointer (some ⟨P, 0, none⟩)] #[]]) := by rw [hW, hG]; exact Held.new _ _ _
        have hbw : Below wr.heap.size wr W := by rw [hW]; exact (Below.refl _ _).alloc (Nat.le_refl _) _
        have HXW := hidden (HX.out.below hbw)
        clear hbw
        go_wp2_with fail
        rw [← hW, ← hG]
        clear hW hG r0 r1 r2
        have hp := HXW.out.par.c0
        have g0 : W.cell? ⟨G, 0, none⟩ = some (.string ⟨#[114, 101, 116, 117, 114, 110]⟩) := HG.out.at_ rfl
        go_still_tail 6, (by kernel_rfl)
        change wpList _ _ _ _ _ W.drew
        have HD := hidden (HXW.out.below (below_drew W))
        replace HG := hidden (HG.out.block (w' := W.drew) rfl)
        clear hp g0
        go_wp2_with fail
        refine (any_skip (tWord 6) HD.out.any).mono ?_
        rintro en w2 ⟨c, o', rfl, ha, hf, hc⟩
        replace HG := hidden (HD.out.any.held hf HG.out (by decide) (by decide) (HD.out.any.vn_ne HG.out (by decide)))
        have HY := hidden (HD.out.step ha hf rfl)
        clear ha hf
        rcases hc with ⟨rfl, s, hs, hb, ho⟩ | ⟨rfl, ho, hb⟩
        · have HB := hidden hb
          have HO := hidden ho
          have HS := hidden hs
          rw [ho] at HY
          have HDS : Hid (d ≤ 200) := HDD.out s hs
          have HM : Hid (1 ≤ M) := by have h1 := (HL.out s hs).2; have h2 := is_some hb; show 1 ≤ M; omega
          have HLN : Hid (Lim (.ok s.next) L.length (M - 1)) := by have h1 := HL.out; rw [hs] at h1; exact (h1.next_le hb).mono (by omega) (by omega)
          have HBM : Hid (CBlock B g P T L (M - 1)) := HBL.out (M - 1) (by have := HM.out; omega)
          have g1 : w2.cell? ⟨G, 1, none⟩ = some (.int .i64 20) := HG.out.at_ rfl
          have g2 : w2.cell? ⟨G, 2, none⟩ = some (.func (.func 39) #[.pointer (some ⟨P, 0, none⟩)] #[]) := HG.out.at_ rfl
          clear hb ho hs HG
          go_wp2_with fail
          refine (value_any (a := ta) HY.out.toStart (fun s1 h1 => HDS.out) HLN.out.self (by simp)).mono ?_
          rintro en w5 ⟨u2, R5, hd2, hc2, hl2⟩
          obtain rfl := hc2.en
          have HC2 := hidden (HY.out.came hc2)
          have HL2 : Hid (∀ n m, Lim (.ok s.next) n m → Lim (toO u2) (n + 1) m) := fun n m h => hl2 n m (h.mono (by omega) (by omega))
          have HD2 := hidden hd2
          clear hd2 hc2 hl2 g1 g2
          go_wp2_with fail
          go_ret
          have hs := HS.out
          subst hs
          have ht := (HTA.out s rfl).2
          subst ht
          exact ⟨u2, _, (PReads.ret (st_ret HB.out) HD2.out).ev, HC2.out, fun n m h => HL2.out n m (h.next HB.out)⟩
        · have HB := hidden hb
          rw [ho] at HY
          clear ho hb HG
          go_wp2_with fail
          go_roundw
          case rel => exact ⟨6 + 1, by decide, by go_num, HY, fun s hs => upto_next (X := fun j => s.is (tWord j)) (HN.out s hs) (HB.out s hs)⟩
          case measure => simp [intOf]
      · have r0 : wr.cell? ⟨T, 21, none⟩ = some (.string ⟨#[112, 114, 105, 110, 116]⟩) := HX.out.par.tab.at_ rfl
        have r1 : wr.cell? ⟨T, 22, none⟩ = some (.int .i64 21) := HX.out.par.tab.at_ rfl
        have r2 : wr.cell? ⟨T, 23, none⟩ = some (.func (.func 39) #[.pointer (some ⟨P, 0, none⟩)] #[]) := HX.out.par.tab.at_ rfl
        obtain ⟨W, hW⟩ : ∃ W, W = wr.alloc (.cells #[.string ⟨#[112, 114, 105, 110, 116]⟩, .int .i64 21, .func (.func 39) #[.pointer (some ⟨P, 0, none⟩)] #[]] 71) := ⟨_, rfl⟩
        obtain ⟨G, hG⟩ : ∃ G, G = wr.heap.size := ⟨_, rfl⟩
        have HG : Hid (Held W G 71 #[.string ⟨#[112, 114, 105, 110, 116]⟩, .int .i64 21, .func (.func 39) #[.pointer (some ⟨P, 0, none⟩)] #[]]) := by rw [hW, hG]; exact Held.new _ _ _
        have hbw : Below wr.heap.size wr W := by rw [hW]; exact (Below.refl _ _).alloc (Nat.le_refl _) _
        have HXW := hidden (HX.out.below hbw)
        clear hbw
        go_wp2_with fail
        rw [← hW, ← hG]
        clear hW hG r0 r1 r2
        have hp := HXW.out.par.c0
        have g0 : W.cell? ⟨G, 0, none⟩ = some (.string ⟨#[112, 114, 105, 110, 116]⟩) := HG.out.at_ rfl
        go_still_tail 6, (by kernel_rfl)
        change wpList _ _ _ _ _ W.drew
        have HD := hidden (HXW.out.below (below_drew W))
        replace HG := hidden (HG.out.block (w' := W.drew) rfl)
        clear hp g0
        go_wp2_with fail
        refine (any_skip (tWord 7) HD.out.any).mono ?_
        rintro en w2 ⟨c, o', rfl, ha, hf, hc⟩
        replace HG := hidden (HD.out.any.held hf HG.out (by decide) (by decide) (HD.out.any.vn_ne HG.out (by decide)))
        have HY := hidden (HD.out.step ha hf rfl)
        clear ha hf
        rcases hc with ⟨rfl, s, hs, hb, ho⟩ | ⟨rfl, ho, hb⟩
        · have HB := hidden hb
          have HO := hidden ho
          have HS := hidden hs
          rw [ho] at HY
          have HDS : Hid (d ≤ 200) := HDD.out s hs
          have HM : Hid (1 ≤ M) := by have h1 := (HL.out s hs).2; have h2 := is_some hb; show 1 ≤ M; omega
          have HLN : Hid (Lim (.ok s.next) L.length (M - 1)) := by have h1 := HL.out; rw [hs] at h1; exact (h1.next_le hb).mono (by omega) (by omega)
          have HBM : Hid (CBlock B g P T L (M - 1)) := HBL.out (M - 1) (by have := HM.out; omega)
          have g1 : w2.cell? ⟨G, 1, none⟩ = some (.int .i64 21) := HG.out.at_ rfl
          have g2 : w2.cell? ⟨G, 2, none⟩ = some (.func (.func 39) #[.pointer (some ⟨P, 0, none⟩)] #[]) := HG.out.at_ rfl
          clear hb ho hs HG
          go_wp2_with fail
          refine (value_any (a := ta) HY.out.toStart (fun s1 h1 => HDS.out) HLN.out.self (by simp)).mono ?_
          rintro en w5 ⟨u2, R5, hd2, hc2, hl2⟩
          obtain rfl := hc2.en
          have HC2 := hidden (HY.out.came hc2)
          have HL2 : Hid (∀ n m, Lim (.ok s.next) n m → Lim (toO u2) (n + 1) m) := fun n m h => hl2 n m (h.mono (by omega) (by omega))
          have HD2 := hidden hd2
          clear hd2 hc2 hl2 g1 g2
          go_wp2_with fail
          go_ret
          have hs := HS.out
          subst hs
          have ht := (HTA.out s rfl).2
          subst ht
          exact ⟨u2, _, (PReads.print (st_print HB.out) HD2.out).ev, HC2.out, fun n m h => HL2.out n m (h.next HB.out)⟩
        · have HB := hidden hb
          rw [ho] at HY
          clear ho hb HG
          go_wp2_with fail
          go_roundw
          case rel => exact ⟨7 + 1, by decide, by go_num, HY, fun s hs => upto_next (X := fun j => s.is (tWord j)) (HN.out s hs) (HB.out s hs)⟩
          case measure => simp [intOf]
    · have hi8 : i = 8 := by omega
      subst hi8
      go_wp2_with fail
      refine (onName_any HX.out.any HX.out.par HDD.out HL.out.self).mono ?_
      rintro en w5 ⟨u2, R5, hd2, hc2, hl2⟩
      obtain rfl := hc2.en
      have HC2 := hidden (HX.out.came hc2)
      have HL2 := hidden hl2
      have HD2 := hidden (Does.st (o := o) (d := d) (fun s hs v hv => PReads.named (st_none (fun j hj => HN.out s hs j (Nat.zero_le _) hj)) hv) hd2)
      clear hd2 hc2 hl2
      go_wp2_with fail
      go_ret
      exact ⟨u2, _, HD2.out, HC2.out, HL2.out⟩
end Go.Proofs.YtagacfcpepoaoaaGreatDoor
