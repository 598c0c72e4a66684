/- The walk through the reference's Part. -/
import Derived.Test.YtihcepkdihmjoaaDoorTreePartLaws
import Derived.Deep.RegionLaw
import Derived.Deep.AppendLies
namespace Go.Proofs.YtihcepkdihmjoaaDoor
open Go.RowKit
set_option linter.unusedVariables false

theorem IS.drew {d : Nat} {W wr : World} {g : Nat} {y : Nd} {m : Nat} {kx : Value} (h : IS d W wr g y m kx) : IS d W wr.drew g y m kx := ⟨h.row.drewN 1, h.box.drew, h.below.trans (below_drewN wr 1 _), h.at_⟩
theorem PM.box_kept {w w6 w7 : World} {gb : Nat} {v : Value} {O : List Nd} {rs : List Int} {kn : Value} {y : Nd} {o : Obj} (h : PM w w6 gb v O rs kn y) (hg : (w6.alloc o).grownBy w7 kn.ownBlock) : Held w7 gb 36 #[.int .i64 y.kind, kn, .int .i64 y.n, .string y.s, .int .i64 y.at_] := by
  have hb : Below w6.heap.size w6 (w6.alloc o) := (Below.refl _ _).alloc (Nat.le_refl _) _
  have rowA : Now w.heap.size (w6.alloc o) kn rs := own_below h.row hb
  have boxA := h.box.since hb
  exact boxA.block (hg.block gb boxA.lt (fun e => own_ne rowA boxA (by decide) e.symm))
set_option maxRecDepth 100000 in
set_option maxHeartbeats 20000000 in
theorem part_any (a : Option Addr) (c n : Nat) (l : List Nd) (hn : n = l.length) (hT : IsT l) (hll : n ≤ 1000) : ∀ (N i : Nat), i < N → i < l.length → ∀ (w : World), Nodes w a l →
    Calls Tryd.prog 24 #[.slice a n c, .int .i64 (i : Int)] w (Parted l i w) := by
  intro N
  induction N with
  | zero => intro i h; omega
  | succ N ih =>
    intro i hiN hil w hN
    have HNL := hidden hn
    have HT := hidden hT
    have HA : Hid (Ahead l) := hT.2.1
    have HN := hidden hN
    have IH := hidden ih
    have HIL := hidden hil
    have hin : (i : Int) < (n : Int) := by omega
    have hkl := kids_le hT hil
    rw [← hn] at hkl
    obtain ⟨lb, lo, ha, hlb, _⟩ := hN.at_ hil
    have HOK := hidden (hN.2 i hil)
    have H5 : ∀ w', Below w.heap.size w w' → Cells5 w' lb (lo + i * 5) (nd l i) := by
      intro w' hb
      obtain ⟨b, o, e, _, h5⟩ := (hN.below hb).at_ hil
      rw [ha] at e
      injection e with e
      injection e with e1 e2
      subst e1 e2
      exact h5
    obtain ⟨x, hx⟩ : ∃ x, x = nd l i := ⟨_, rfl⟩
    rw [← hx] at HOK hkl H5
    have HX := hidden hx
    have HH5 := hidden H5
    clear hx hn hT hN ih hil H5
    subst ha
    have HPS := hidden (PM.start w x)
    obtain ⟨c0, c1, c2, c3, c4⟩ := HH5.out w (Below.refl _ _)
    obtain ⟨M, hM⟩ : ∃ M, M = x.kids.length := ⟨_, rfl⟩
    rw [← hM] at c1 hkl
    have HM := hidden hM
    clear hM
    go_enter Tryd.func24, Tryd.ntmps24
    rw [veil 19, veil 20]
    go_wp2_with fail
    obtain ⟨W1, hW1⟩ : ∃ W1, W1 = (w.alloc (.cells #[] 36)).alloc (.cells #[.int .i64 x.kind, .slice none 0 0, .int .i64 x.n, .string x.s, .int .i64 x.at_] 36) := ⟨_, rfl⟩
    rw [← hW1] at HPS ⊢
    obtain ⟨gb, hgb⟩ : ∃ gb, gb = w.heap.size + 1 := ⟨_, rfl⟩
    rw [← hgb] at HPS ⊢
    clear hW1 hgb c0 c1 c2 c3 c4
    go_loopw [5, 7] (fun t5 t7 wr => ∃ (k : Nat) (O : List Nd) (rs : List Int) (kn : Value), k ≤ M ∧ t7 = .int .i64 (k : Int) ∧ Hid (PM w wr gb t5 O rs kn x) ∧ Hid (Glue l i k O rs)) (fun _ t7 _ => M - (intOf t7).toNat)
    case atStart => exact ⟨0, [], [], _, by omega, rfl, HPS, Glue.start l i⟩
    case round =>
      rename_i t5 _
      obtain ⟨k, O, rs, kn, hk, rfl, HPM, HG⟩ := hrel
      have hOl := HG.out.le HT.out HIL.out
      rw [← HNL.out] at hOl
      obtain ⟨oa, oc, hv⟩ := own_shape5 HPM.out.own
      subst hv
      have c1 := (HH5.out wr HPM.out.below).2.1
      rw [← HM.out] at c1
      by_cases hkM : k < M
      · have hkMi : (k : Int) < (M : Int) := by omega
        have hkk : Hid (k < (nd l i).kids.length) := by show k < _; rw [← HX.out, ← HM.out]; exact hkM
        obtain ⟨q, hq, hqi, _⟩ := kid_q HA.out HIL.out hkk.out
        have hrows := (HOK.out.below HPM.out.below).rows
        rw [← HM.out] at hrows
        obtain ⟨kb, ko, hka, hkb, hkc⟩ := hrows (by omega)
        have hc := hkc k hkM
        simp only at hc
        rw [HX.out, hq] at hc
        have HQ := hidden hq
        rw [hka] at c1
        have hql : q < l.length := by have := HIL.out; omega
        clear hkc hq hrows
        go_wp2_with fail
        refine (IH.out q (by omega) hql wr (HN.out.below HPM.out.below)).mono ?_
        rintro e w1 ⟨vp, L, rfl, hown, hkids, hpart, hb1⟩
        have HPART := hidden hpart
        have hL0 := hpart.pos
        have hLl : L.length ≤ n := by rw [hpart.size, HNL.out]; exact sz_le HT.out hql
        obtain ⟨gp, cp, rfl, hgp⟩ := own_some hown hL0
        obtain ⟨wo, hwo⟩ : ∃ wo, wo = wr := ⟨_, rfl⟩
        rw [← hwo] at HPM hown hkids hb1 hgp
        have HMS : Hid (MS O.length wo w1 (.slice (some ⟨gp, 0, none⟩) L.length cp) L [] 0) := MS.start hown hkids hb1
        have HGP := hidden hgp
        have hkey : Hid (∀ j, j < L.length → ∀ z ∈ (nd L j).kids, 0 ≤ z ∧ z < (j : Int)) := fun j hj z hz => by
          obtain ⟨f, hf, _⟩ := HPART.out.emb
          exact hf.ahead j hj z hz
        have hkey2 : Hid (∀ j, j < L.length → (nd L j).kids.length ≤ n) := fun j hj => by
          obtain ⟨f, hf, _⟩ := HPART.out.emb
          have h1 := congrArg List.length (hf.kids j hj)
          simp only [List.length_map] at h1
          have h2 := kids_le HT.out (hf.lt j hj)
          rw [h1, HNL.out]
          exact h2
        obtain ⟨P, hP⟩ : ∃ P, P = L.length := ⟨_, rfl⟩
        obtain ⟨D, hD⟩ : ∃ D, D = O.length := ⟨_, rfl⟩
        have HP := hidden hP
        have HD := hidden hD
        rw [← hP] at hLl hL0 HMS ⊢
        rw [← hD] at hOl HMS ⊢
        clear hown hkids hpart hb1 hgp hP hD hwo hc c1 hka hkb
        go_wp2_with fail
        go_loopw [9] (fun t9 wr => ∃ (j : Nat) (Q : List Nd), j ≤ P ∧ t9 = .int .i64 (j : Int) ∧ Hid (MS D wo wr (.slice (some ⟨gp, 0, none⟩) P cp) L Q j)) (fun t9 _ => P - (intOf t9).toNat)
        case atStart => exact ⟨0, [], by omega, rfl, HMS⟩
        case round =>
          obtain ⟨j, Q, hj, rfl, HMj⟩ := hrel
          by_cases hjP : j < P
          · have hjPi : (j : Int) < (P : Int) := by omega
            have hjL : Hid (j < L.length) := by show j < _; rw [← HP.out]; exact hjP
            have hownj := HMj.out.own
            rw [← HP.out] at hownj
            have H5j := hidden (own_at hownj HMj.out.len hjL.out)
            have hyk := hkey.out j hjL.out
            have hyl := hkey2.out j hjL.out
            have HKJ : Hid (Now wo.heap.size wr (kv (nd L j)) (nd L j).kids) := HMj.out.kids _ (by rw [drop_nd hjL.out]; exact List.mem_append_right _ (List.mem_cons_self ..))
            obtain ⟨y, hy⟩ : ∃ y, y = nd L j := ⟨_, rfl⟩
            rw [← hy] at H5j hyk hyl HKJ
            have HY := hidden hy
            have HYK := hidden hyk
            clear hy hyk hownj
            obtain ⟨y0, y1, y2, y3, y4⟩ := H5j.out
            have HGL : Hid (gp < wr.heap.size) := (own_lt HMj.out.own gp rfl).2
            go_wp2_with fail
            obtain ⟨wj, hwj⟩ : ∃ wj, wj = wr := ⟨_, rfl⟩
            rw [← hwj] at HMj H5j HKJ HGL y0 y1 y2 y3 y4 ⊢
            have HIS : Hid (IS D wj (wj.alloc (.cells #[.int .i64 y.kind, .slice none 0 0, .int .i64 y.n, .string y.s, .int .i64 y.at_] 36)) wj.heap.size y 0 (.slice none 0 0)) := IS.start
            obtain ⟨W2, hW2⟩ : ∃ W2, W2 = wj.alloc (.cells #[.int .i64 y.kind, .slice none 0 0, .int .i64 y.n, .string y.s, .int .i64 y.at_] 36) := ⟨_, rfl⟩
            rw [← hW2] at HIS ⊢
            obtain ⟨g, hg⟩ : ∃ g, g = wj.heap.size := ⟨_, rfl⟩
            rw [← hg] at HIS HGL ⊢
            obtain ⟨R, hR⟩ : ∃ R, R = y.kids.length := ⟨_, rfl⟩
            have HRR := hidden hR
            rw [← hR] at hyl y1
            clear hwj hW2 hg hR y0 y1 y2 y3 y4
            go_loopw [11] (fun t11 wr => ∃ (m : Nat) (xa : Option Addr) (xc : Nat), m ≤ R ∧ t11 = .int .i64 (m : Int) ∧ Hid (IS D wj wr g y m (.slice xa m xc))) (fun t11 _ => R - (intOf t11).toNat)
            case atStart => exact ⟨0, none, 0, by omega, rfl, HIS⟩
            case round =>
              obtain ⟨m, xa, xc, hm, rfl, HI⟩ := hrel
              have H5w := hidden (H5j.out.below HI.out.below (by rw [← HI.out.at_]; exact HGL.out))
              have y1 := H5w.out.2.1
              rw [← HRR.out] at y1
              by_cases hmR : m < R
              · have hmRi : (m : Int) < (R : Int) := by omega
                have HMR : Hid (m < y.kids.length) := by show m < _; rw [← HRR.out]; exact hmR
                have hrows := (now_rows HKJ.out).below HI.out.below
                rw [← HRR.out] at hrows
                obtain ⟨kb, ko, hka, hkb, hkc⟩ := hrows (by omega)
                have hc := hkc m hmR
                simp only at hc
                rw [hka] at y1
                have hzm : y.kids.getD m 0 ∈ y.kids := by
                  rw [List.getD_eq_getElem?_getD, List.getElem?_eq_getElem HMR.out]; exact List.getElem_mem HMR.out
                have hzz := HYK.out _ hzm
                obtain ⟨z, hz⟩ : ∃ z : Nat, y.kids.getD m 0 = (z : Int) := ⟨(y.kids.getD m 0).toNat, by omega⟩
                rw [hz] at hc hzz
                have HZ := hidden hz
                have hz1 : z < j := by omega
                clear hz hzz hzm hkc hrows hka hkb
                have b1 := HI.out.box.at_ (j := 1) rfl
                have f1 := HI.out.box.frozen 1
                obtain ⟨E, hE⟩ : ∃ E : Nat, (z : Int) + (D : Int) = (E : Int) := ⟨z + D, by omega⟩
                have hwE : IntKind.i64.wrap (E : Int) = (E : Int) := Go.IntWalk.i64_in _ (by omega)
                go_wp2_with fail
                have HE := hidden hE
                have HBX := hidden HI.out.box
                have hglt : g < wr.heap.size := HI.out.box.lt
                obtain ⟨XS, hXS⟩ : ∃ XS, XS = (y.kids.take m).map (fun k => k + (D : Int)) := ⟨_, rfl⟩
                have hXl : XS.length = m := by have := HMR.out; rw [hXS]; simp; omega
                have hrow := HI.out.row
                rw [← hXS] at hrow
                unfold Now at hrow
                rw [hXl] at hrow
                have HROW := hidden hrow
                have HXL := hidden hXl
                have HXS := hidden hXS
                clear hrow hXl hXS
                obtain ⟨i0, hi0, hz0, hz1, hz2⟩ := info_parts infoI
                have HI0 := hidden hi0
                have HZ0 := hidden hz0
                have HZ1 := hidden hz1
                have HZ2 := hidden hz2
                clear hi0 hz0 hz1 hz2
                go_region_law ((refine step_append_lies _ (by rfl) _ _ _ (by rfl) (g + 1) 3 i0 (.int .i64 0) 1 8 Tryd.underlying25 HI0.out HZ0.out HZ1.out HZ2.out rfl (by omega) (.slice xa m xc) m (XS.map (Value.int .i64)) (by rfl) ((HROW.out.alloc _).drew) ⟨wr.heap.size, 0, none⟩ 1 1 [.int .i64 (E : Int)] (by rfl) (by rfl) (World.news_of_block (cs := #[.int .i64 (E : Int)]) (t := 3) (fr := (0, 0)) (heap_alloc_new wr _)) (by simp [Value.oneCell']) (by omega) (by unfold maxLen; omega) (by omega) (by simp; omega) (wr.heap.size + 1) (by simp) ?_; intro gg cap w3 hown3 hgrow hat hlt; have HG3 := hidden hgrow; have HO3 := hidden hown3; have hbx := HBX.out.block (w' := w3) ((hgrow.block g (by simp; omega) (fun e => own_ne HROW.out HBX.out (by decide) e.symm)).trans (heap_alloc_old wr _ (by omega))); have b1 := hbx.at_ (j := 1) rfl; have f1 := hbx.frozen 1; clear hbx hown3 hgrow hat hlt))
                all_goals
                  go_wp2_with fail
                  go_roundw
                  case rel =>
                    refine ⟨m + 1, some ⟨gg, 0, none⟩, cap, by omega, by go_num, ?_⟩
                    refine HI.out.next (z := (E : Int)) HMR.out (by rw [HZ.out]; exact HE.out.symm) ?_ ?_
                    · unfold Now
                      rw [← HXS.out, List.length_append, HXL.out, List.map_append]
                      exact HO3.out
                    · have hb0 : Below (g + 1) wr (wr.alloc (.cells #[.int .i64 (E : Int)] 3)) := (Below.refl _ _).alloc (by omega) _
                      have hb1 : Below (g + 1) wr (wr.alloc (.cells #[.int .i64 (E : Int)] 3)).drew := ⟨hb0.os, hb0.tape, hb0.output, hb0.size, hb0.block⟩
                      exact hb1.grown HG3.out (by simp; omega) (fun k' hk' => (own_lt HROW.out k' hk').1)
                  case measure => simp [intOf]; omega
              · obtain ⟨em⟩ : Nonempty (m = R) := ⟨by omega⟩
                have HEM := hidden em
                clear em
                have b0 := HI.out.box.at_ (j := 0) rfl
                have b1 := HI.out.box.at_ (j := 1) rfl
                have b2 := HI.out.box.at_ (j := 2) rfl
                have b3 := HI.out.box.at_ (j := 3) rfl
                have b4 := HI.out.box.at_ (j := 4) rfl
                have hoF := own_below HMj.out.own HI.out.below
                rw [← HP.out] at hoF
                have f0 := own_frozen hoF (j * 5)
                have f1 := own_frozen hoF (j * 5 + 1)
                have f2 := own_frozen hoF (j * 5 + 2)
                have f3 := own_frozen hoF (j * 5 + 3)
                have f4 := own_frozen hoF (j * 5 + 4)
                have y0 := H5w.out.1
                have y2 := H5w.out.2.2.1
                have y3 := H5w.out.2.2.2.1
                have y4 := H5w.out.2.2.2.2
                clear hoF
                go_wp2_with fail
                go_roundw
                case rel =>
                  refine ⟨j + 1, Q ++ [put D y xa xc], by omega, by go_num, ?_⟩
                  have h := HMj.out.next hjL.out (gp := gp) (ka := xa) (kc := xc) (wr := wr) (g := g) rfl HGP.out (by rw [← HY.out, ← HRR.out, ← HEM.out]; exact HI.out)
                  rw [← HY.out, ← HRR.out, ← HEM.out] at h
                  exact h
                case measure => simp [intOf]; omega
          · obtain ⟨ej⟩ : Nonempty (j = L.length) := ⟨by rw [← HP.out]; omega⟩
            have HMS2 : Hid (MS D wo wr (.slice (some ⟨gp, 0, none⟩) P cp) L Q L.length) := by rw [← ej]; exact HMj.out
            have hQL : Hid (P = Q.length) := by show _ = _; rw [HMS2.out.len, HP.out]
            have hown5 := own_below HPM.out.own HMS2.out.below
            rw [← HD.out] at hown5
            have hp5 := HMS2.out.own
            rw [List.drop_length, List.append_nil, ← HP.out] at hp5
            have HO5 := hidden hown5
            have HP5 := hidden hp5
            have hB5 : w.heap.size ≤ wr.heap.size := by have h1 := HPM.out.below.size; have h2 := HMS2.out.below.size; omega
            clear hown5 hp5 ej HMj
            go_wp2_with (at_builtin; refine wpList_nodes rfl (.tmp 79) (.tmp 80) rfl w.heap.size wo.heap.size wr (.slice oa D oc) D P gp cp (ndCells O) Q rfl rfl HO5.out hB5 hQL.out hL0 (by omega) HP5.out ?_; intro v6 w6 hown6 hg6 hw6)
            have hP6 : PM w w6 gb v6 (O ++ Q) rs kn x := HPM.out.app HMS2.out (by rw [← HD.out, ← HP.out]; exact hown6) (by rw [← HD.out]; exact hg6) (fun k' hk' => by rw [← HD.out]; exact hw6 k' hk')
            have HP6 := hidden hP6
            obtain ⟨va, vc, hv6⟩ := own_shape5 hown6
            subst hv6
            obtain ⟨na, nc, hkn⟩ := own_shape5 hP6.row
            have hrk := HG.out.rlen (by rw [← HX.out, ← HM.out]; exact hk)
            have hrk2 : rs.length ≤ 1000 := by omega
            rw [hrk] at hkn
            subst hkn
            clear hrk
            clear hown6 hg6 hw6 hP6
            have b1 := HP6.out.box.at_ (j := 1) rfl
            go_wp2_with fail
            refine wp_veil ?_
            go_wp2_with (at_builtin; refine wpList_kid rfl (.tmp 83) (.tmp 87) rfl w.heap.size w6 (.slice na k nc) rs _ rfl rfl HP6.out.row HP6.out.below.size (by omega) ?_; intro v7 w7 hr7 hg7 hw7; have hbox7 := HP6.out.box_kept hg7; have b7 := hbox7.at_ (j := 1) rfl; have f7 := hbox7.frozen 1; have HPUSH := hidden (HP6.out.push hr7 hg7 hw7); obtain ⟨wa, wc, hv7⟩ := own_shape5 hr7; rw [List.length_append, List.length_singleton] at hv7; subst hv7; clear hr7 hg7 hw7 hbox7 b1)
            go_roundw
            case rel =>
              refine ⟨k + 1, O ++ Q, _, _, by omega, by go_num, HPUSH, ?_⟩
              have h := HG.out.next hkk.out HQ.out HPART.out ⟨HMS2.out.len.symm, fun t ht => by have h2 := HMS2.out.shift t ht; rw [HD.out] at h2; exact h2⟩
              have e : ((O.length + Q.length - 1 : Nat) : Int) = (D : Int) + (P : Int) - 1 := by rw [← HD.out, ← hQL.out]; omega
              rw [e] at h
              exact h
            case measure => simp [intOf]; omega
      · obtain ⟨ek⟩ : Nonempty (k = (nd l i).kids.length) := ⟨by rw [← HX.out, ← HM.out]; omega⟩
        have HGD : Hid (Glue l i (nd l i).kids.length O rs) := by rw [← ek]; exact HG.out
        obtain ⟨na, nc, hkn⟩ := own_shape5 HPM.out.row
        subst hkn
        clear ek
        have b0 := HPM.out.box.at_ (j := 0) rfl
        have b1 := HPM.out.box.at_ (j := 1) rfl
        have b2 := HPM.out.box.at_ (j := 2) rfl
        have b3 := HPM.out.box.at_ (j := 3) rfl
        have b4 := HPM.out.box.at_ (j := 4) rfl
        go_wp2_with fail
        refine wp_veil ?_
        go_wp2_with (at_builtin; refine wpList_node rfl (.tmp 90) (.tmp 92) rfl w.heap.size wr (.slice oa O.length oc) O.length (ndCells O) [.int .i64 x.kind, .slice na rs.length nc, .int .i64 x.n, .string x.s, .int .i64 x.at_] _ rfl rfl HPM.out.own HPM.out.below.size (by omega) rfl rfl (by intro u hu; simp at hu; rcases hu with rfl | rfl | rfl | rfl | rfl <;> rfl) ?_; intro v7 w7 hown7 hg7)
        have hpm := HPM.out
        rw [HX.out] at hown7 hpm
        have HPM2 := hidden hpm
        have HO7 := hidden hown7
        have HG7 := hidden hg7
        clear hpm hown7 hg7 b0 b1 b2 b3 b4 c1
        go_wp2_with fail
        go_ret
        exact HPM2.out.done HA.out HIL.out HGD.out HO7.out HG7.out rfl
end Go.Proofs.YtihcepkdihmjoaaDoor
