/- The walk through Text's own function, which calls itself. -/
import Derived.Test.YtihcepkdihmjoaaDoorTreeHead2
import Derived.Test.YtihcepkdihmjoaaDoorGenVeil
import Derived.StillTailTactics
namespace Go.Proofs.YtihcepkdihmjoaaDoor
open Go.RowKit
set_option linter.unusedVariables false

theorem others_below {e : TypeId} {b : Option Nat} {w w' : World} (h : Below w.heap.size w w') : Lib.OthersKept e b w w' := by
  intro k o hk _ _
  have hlt : k < w.heap.size := (Array.getElem?_eq_some_iff.1 hk).1
  rw [h.block k hlt]
  exact hk
theorem bldAt_below {T e : TypeId} {B b : Nat} {p : Value} {bs : List Value} {w w' : World} (h : Lib.BuilderAtF T e B b p bs w) (hb : Below w.heap.size w w') : Lib.BuilderAtF T e B b p bs w' := by
  obtain ⟨hB, v, hv, hown, hne⟩ := h
  refine ⟨hB, v, ?_, ⟨hown.1, ?_⟩, hne⟩
  · rw [hb.block b (Array.getElem?_eq_some_iff.1 hv).1]; exact hv
  · rcases hown.2 with h1 | ⟨g, cap, cur, fz, h1, h2, h3, r⟩
    · exact .inl h1
    · exact .inr ⟨g, cap, cur, fz, h1, h2, (hb.block g (Array.getElem?_eq_some_iff.1 h3).1).trans h3, r⟩
theorem bld_below {T e : TypeId} {B b : Nat} {bs : List Value} {w w' : World} (h : Lib.IsBuilderF T e B b bs w) (hb : Below w.heap.size w w') : Lib.IsBuilderF T e B b bs w' :=
  h.elim (fun x => .inl (bldAt_below x hb)) (fun x => .inr (bldAt_below x hb))
theorem bld_size {T e : TypeId} {B b : Nat} {bs : List Value} {w : World} (h : Lib.IsBuilderF T e B b bs w) : B ≤ w.heap.size := by
  rcases h with h | h
  · have := h.lt; have := h.1; omega
  · have := h.lt; have := h.1; omega
/-- where Text's own function finds what it has from Text: the builder is block ob -/
structure TEnv (w0 w : World) (a : Option Addr) (l : List Nd) (n c ob pb lb : Nat) : Prop where
  nodes : Nodes w0 a l
  tabs : Tabs w0
  below : Below w0.heap.size w0 w
  old : w0.heap.size ≤ ob
  pc : w.heap[pb]? = some (.cells #[.func (.func 32) #[] #[.pointer (some ⟨ob, 0, none⟩), .pointer (some ⟨pb, 0, none⟩), .pointer (some ⟨lb, 0, none⟩)]] 49 (0, 0))
  lc : w.heap[lb]? = some (.cells #[.slice a n c] 22 (0, 0))
  po : pb ≠ ob
  lo : lb ≠ ob
theorem TEnv.keep {w0 w w' : World} {a : Option Addr} {l : List Nd} {n c ob pb lb : Nat} (h : TEnv w0 w a l n c ob pb lb) (hb : Below w0.heap.size w w') (hk : Lib.OthersKept 5 (some ob) w w') : TEnv w0 w' a l n c ob pb lb := by
  refine ⟨h.nodes, h.tabs, h.below.trans hb, h.old, hk _ _ h.pc (fun e => h.po (by injection e)) (fun c fz e => ?_), hk _ _ h.lc (fun e => h.lo (by injection e)) (fun c fz e => ?_), h.po, h.lo⟩
  · injection e with _ e2; cases e2
  · injection e with _ e2; cases e2
/-- what it leaves -/
def Putt (T : List UInt8) (B ob : Nat) (bs : List Value) (w : World) (e : Ending) (w' : World) : Prop :=
  e = .returned (.tuple #[]) ∧ Lib.IsBuilderF 48 5 B ob (bs ++ Lib.byteCells T) w' ∧ Below B w w' ∧ Lib.OthersKept 5 (some ob) w w'
/-- the text behind the first j kids -/
def tpre (l : List Nd) (i j : Nat) : List UInt8 := [40] ++ hd (nd l i) ++ ((nd l i).kids.take j).flatMap (fun k => 32 :: tx l k.toNat)
theorem tpre_zero (l : List Nd) (i : Nat) : tpre l i 0 = [40] ++ hd (nd l i) := by simp [tpre]
theorem tpre_next {l : List Nd} {i j q : Nat} (hj : j < (nd l i).kids.length) (hq : (nd l i).kids.getD j 0 = (q : Int)) : tpre l i (j + 1) = tpre l i j ++ [32] ++ tx l q := by
  unfold tpre
  rw [take_getD' hj, hq, List.flatMap_append]
  simp
theorem tx_low {l : List Nd} (hA : Ahead l) {i : Nat} (hi : i < l.length) (hk : (nd l i).kind ≤ 4) : tx l i = hd (nd l i) := by
  rw [tx_eq hA hi]; unfold txf; rw [if_pos hk]
theorem tx_high {l : List Nd} (hA : Ahead l) {i : Nat} (hi : i < l.length) (hk : ¬ (nd l i).kind ≤ 4) : tx l i = tpre l i (nd l i).kids.length ++ [41] := by
  rw [tx_eq hA hi]; unfold txf tpre; rw [if_neg hk, List.take_length, List.flatMap_map]
theorem tpre_mono {l : List Nd} (hA : Ahead l) {i : Nat} (hi : i < l.length) : ∀ (d j : Nat), j + d ≤ (nd l i).kids.length → (tpre l i j).length ≤ (tpre l i (j + d)).length
  | 0, j, _ => Nat.le_refl _
  | d + 1, j, h => by
    have ih := tpre_mono hA hi d j (by omega)
    obtain ⟨q, hq, _, _⟩ := kid_q hA hi (show j + d < (nd l i).kids.length by omega)
    rw [← Nat.add_assoc, tpre_next (by omega) hq]
    simp
    omega
theorem tpre_le {l : List Nd} (hA : Ahead l) {i j : Nat} (hi : i < l.length) (hk : ¬ (nd l i).kind ≤ 4) (hj : j ≤ (nd l i).kids.length) : (tpre l i j).length + 1 ≤ (tx l i).length := by
  have := tpre_mono hA hi ((nd l i).kids.length - j) j (by omega)
  rw [show j + ((nd l i).kids.length - j) = (nd l i).kids.length by omega] at this
  rw [tx_high hA hi hk, List.length_append]
  simp
  omega
theorem Putt.of {T : List UInt8} {B ob : Nat} {bs : List Value} {w w' : World} {e : Ending} {cs : List Value} (he : e = .returned (.tuple #[])) (hb : Lib.IsBuilderF 48 5 B ob cs w') (hc : cs = bs ++ Lib.byteCells T) (h1 : Below B w w') (h2 : Lib.OthersKept 5 (some ob) w w') : Putt T B ob bs w e w' := by
  subst hc
  exact ⟨he, hb, h1, h2⟩
theorem cat_data (A B : List UInt8) : ((⟨A.toArray⟩ : ByteArray) ++ ⟨B.toArray⟩).data.toList = A ++ B := by simp
set_option maxRecDepth 100000 in
set_option maxHeartbeats 8000000 in
theorem put_any (w0 : World) (a : Option Addr) (l : List Nd) (n c ob pb lb : Nat) (hA : Ahead l) (hn : n = l.length) (hll : n ≤ 1000000000) (hK : ∀ i, i < l.length → 1 ≤ (nd l i).kind ∧ (nd l i).kind ≤ 26) : ∀ (N i : Nat), i < N → i < l.length → ∀ (bs : List Value) (w : World), TEnv w0 w a l n c ob pb lb → Lib.IsBuilderF 48 5 w0.heap.size ob bs w → bs.length + (tx l i).length ≤ 140737488355328 →
    Calls Tryd.prog 32 #[(nd l i).v, .pointer (some ⟨ob, 0, none⟩), .pointer (some ⟨pb, 0, none⟩), .pointer (some ⟨lb, 0, none⟩)] w (Putt (tx l i) w0.heap.size ob bs w) := by
  intro N
  induction N with
  | zero => intro i h; omega
  | succ N ih =>
    intro i hiN hil bs w hE hBl hlen
    have HE := hidden hE
    have HBl := hidden hBl
    have HA := hidden hA
    have HNL := hidden hn
    have HK := hidden hK
    have IH := hidden ih
    have HIL := hidden hil
    have hk := hK i hil
    have HSZ : Hid (w0.heap.size ≤ w.heap.size) := HE.out.below.size
    clear hE hBl ih hA hn hK
    have HOK := hidden ((HE.out.nodes.below HE.out.below).2 i HIL.out)
    have HT := hidden (HE.out.tabs.below HE.out.below)
    obtain ⟨B, hB⟩ : ∃ B, B = w0.heap.size := ⟨_, rfl⟩
    rw [← hB] at HBl HSZ ⊢
    have HBB := hidden hB
    clear hB
    obtain ⟨x, hx⟩ : ∃ x, x = nd l i := ⟨_, rfl⟩
    rw [← hx] at HOK hk ⊢
    have HX := hidden hx
    clear hx
    have HV : Hid (x.v = .agg #[.int .i64 x.kind, .slice x.ka x.kids.length x.kc, .int .i64 x.n, .string x.s, .int .i64 x.at_]) := rfl
    rw [HV.out]
    have hkl := HOK.out.len
    -- the world behind the box
    obtain ⟨w1, hw1⟩ : ∃ w1, w1 = w.alloc (.cells #[.int .i64 x.kind, .slice x.ka x.kids.length x.kc, .int .i64 x.n, .string x.s, .int .i64 x.at_] 36) := ⟨_, rfl⟩
    have HB1 : Hid (Below w.heap.size w w1) := by rw [hw1]; exact (Below.refl _ _).alloc (Nat.le_refl _) _
    have HHD : Hid (Held w1 w.heap.size 36 #[.int .i64 x.kind, .slice x.ka x.kids.length x.kc, .int .i64 x.n, .string x.s, .int .i64 x.at_]) := by rw [hw1]; exact Held.new w _ _
    have hhead := head_any x w1 (HT.out.below HB1.out) hk.1 hk.2 (HOK.out.below HB1.out)
    rw [HV.out] at hhead
    have HHEAD := hidden hhead
    clear hhead
    have HTXL := hidden hlen
    obtain ⟨H, hH⟩ : ∃ H, H = hd x := ⟨_, rfl⟩
    rw [← hH] at HHEAD
    have HHH := hidden hH
    have hHl : H.length ≤ 140737488351232 + 28 := by
      have a1 := hd_len x HOK.out.n0 HOK.out.n1
      have a2 := HOK.out.s
      have a3 : x.t.length = x.s.size := length_of x.s
      rw [hH]
      omega
    clear hH hlen
    by_cases hk4 : x.kind ≤ 4
    · have HTX : Hid (tx l i = H) := by
        show _ = _
        rw [tx_low HA.out HIL.out (by rw [← HX.out]; exact hk4), HHH.out, HX.out]
      go_enter Tryd.func32, Tryd.ntmps32
      go_wp2_with fail
      rw [← hw1]
      refine HHEAD.out.mono ?_
      rintro e w2 ⟨rfl, hb2⟩
      have HB2 : Hid (Below w.heap.size w w2) := HB1.out.trans (hb2.mono HB1.out.size)
      have HBl2 := hidden (bld_below HBl.out HB2.out)
      clear hb2 hw1
      unfold txt
      go_wp2_with fail
      refine (Tryd.Builder_WriteString_k B ob bs ⟨H.toArray⟩ w2 HBl2.out (by have := HTXL.out; rw [HTX.out] at this; exact this) (bld_size HBl2.out)).mono ?_
      rintro e w3 ⟨rfl, hb3, hbe3, hk3⟩
      have HB3 := hidden hb3
      have HBE3 := hidden hbe3
      have HK3 := hidden hk3
      clear hb3 hbe3 hk3
      go_wp2_with fail
      go_end0
      exact Putt.of rfl (.inr HB3.out) (by rw [HTX.out]; rfl) ((HB2.out.mono HSZ.out).trans HBE3.out) ((others_below HB2.out).trans HK3.out)
    · have HZ := hidden (tpre_zero l i)
      have HLE := hidden (tpre_le HA.out (j := 0) HIL.out (by rw [← HX.out]; exact hk4) (by omega))
      go_enter Tryd.func32, Tryd.ntmps32
      go_wp2_with fail
      rw [← hw1]
      refine HHEAD.out.mono ?_
      rintro e w2 ⟨rfl, hb2⟩
      have HB2 : Hid (Below w.heap.size w w2) := HB1.out.trans (hb2.mono HB1.out.size)
      have HBl2 := hidden (bld_below HBl.out HB2.out)
      have HHD2 := hidden (HHD.out.since hb2)
      clear hb2 hw1
      unfold txt
      have hsz : (⟨H.toArray⟩ : ByteArray).size ≤ 140737488355328 := by rw [txt_size]; omega
      have HC0 : Hid (Lib.strCells ((⟨#[40]⟩ : ByteArray) ++ ⟨H.toArray⟩) = Lib.byteCells (tpre l i 0)) := by
        show _ = _
        rw [Lib.strCells_eq, HZ.out, ← HX.out, ← HHH.out]
        exact congrArg Lib.byteCells (cat_data [40] H)
      have HS0 : Hid (((⟨#[40]⟩ : ByteArray) ++ ⟨H.toArray⟩).size = (tpre l i 0).length) := by
        show _ = _
        have := congrArg List.length HC0.out
        rw [Lib.strCells_length, Lib.byteCells_length] at this
        exact this
      go_wp2_with fail
      refine (Tryd.Builder_WriteString_k B ob bs _ w2 HBl2.out (by have h1 := HTXL.out; have h2 := HLE.out; rw [HS0.out]; omega) (bld_size HBl2.out)).mono ?_
      rintro e w3 ⟨rfl, hb3, hbe3, hk3⟩
      rw [HC0.out] at hb3
      have HB3 := hidden hb3
      have HBE3 : Hid (Below B w w3) := (HB2.out.mono HSZ.out).trans hbe3
      have HK3 : Hid (Lib.OthersKept 5 (some ob) w w3) := (others_below HB2.out).trans hk3
      have hobw : ob < w.heap.size := by
        rcases HBl.out with h | h
        · exact h.lt
        · exact h.lt
      have HHD3 : Hid (Held w3 w.heap.size 36 #[.int .i64 x.kind, .slice x.ka x.kids.length x.kc, .int .i64 x.n, .string x.s, .int .i64 x.at_]) :=
        hk3 _ _ HHD2.out (fun e => by injection e; omega) (fun c fz e => by injection e with _ e2; cases e2)
      clear hb3 hbe3 hk3 hsz
      have ck := HHD3.out.at_ (j := 1) rfl
      go_wp2_with fail
      go_loopw [6, 20] (fun _ t wr => ∃ j : Nat, j ≤ x.kids.length ∧ t = .int .i64 (j : Int) ∧ Hid (Lib.IsBuilderF 48 5 B ob (bs ++ Lib.byteCells (tpre l i j)) wr) ∧ Hid (Below B w wr) ∧ Hid (Lib.OthersKept 5 (some ob) w wr)) (fun _ t _ => x.kids.length - (intOf t).toNat)
      case atStart => exact ⟨0, by omega, rfl, .inr HB3.out, HBE3, HK3⟩
      case round =>
        obtain ⟨j, hj, rfl, HBj, HBEj, HKj⟩ := hrel
        have HEj := hidden (HE.out.keep (by rw [← HBB.out]; exact HBEj.out) HKj.out)
        by_cases hjm : j < x.kids.length
        · have hjmi : (j : Int) < (x.kids.length : Int) := by omega
          have hjk : Hid (j < (nd l i).kids.length) := by show j < _; rw [← HX.out]; exact hjm
          obtain ⟨q, hq, hqi, _⟩ := kid_q HA.out HIL.out hjk.out
          have HOK0 := HE.out.nodes.2 i HIL.out
          rw [← HX.out] at HOK0
          obtain ⟨kb, ko, hka, hkb, hkc⟩ := (HOK0.rows.below HEj.out.below) (by omega)
          have hc := hkc j hjm
          simp only at hc
          rw [HX.out, hq] at hc
          rw [hka]
          have HQ := hidden hq
          clear hkc hq HOK0 hka
          have HNX := hidden (tpre_next hjk.out HQ.out)
          have HLN := hidden (tpre_le HA.out (j := j + 1) HIL.out (by rw [← HX.out]; omega) hjk.out)
          have HLX : Hid (bs.length + (tpre l i j).length + 1 + (tx l q).length ≤ 140737488355328) := by
            have h1 := HTXL.out
            have h2 := HLN.out
            rw [HNX.out, List.length_append, List.length_append] at h2
            simp at h2
            show _ ≤ _
            omega
          go_wp2_with fail
          refine (Tryd.Builder_WriteString_k B ob _ _ wr HBj.out (by rw [List.length_append, Lib.byteCells_length]; have h1 := HLX.out; show _ + 1 ≤ _; omega) (bld_size HBj.out)).mono ?_
          rintro e w4 ⟨rfl, hb4, hbe4, hk4'⟩
          have HB4 : Hid (Lib.IsBuilderF 48 5 B ob (bs ++ Lib.byteCells (tpre l i j ++ [32])) w4) := by
            refine .inr ?_
            rw [Lib.byteCells_append, ← List.append_assoc]
            exact hb4
          have HBE4 : Hid (Below B w w4) := HBEj.out.trans hbe4
          have HK4 : Hid (Lib.OthersKept 5 (some ob) w w4) := HKj.out.trans hk4'
          clear hb4 hbe4 hk4'
          have HE4 := hidden (HE.out.keep (by rw [← HBB.out]; exact HBE4.out) HK4.out)
          have cP := Held.at_ (show Held w4 pb 49 _ from HE4.out.pc) (j := 0) rfl
          have cL := Held.at_ (show Held w4 lb 22 _ from HE4.out.lc) (j := 0) rfl
          have hql : q < l.length := by have := HIL.out; omega
          obtain ⟨nb, no, rfl, hnb, c0, c1, c2, c3, c4⟩ := (HE4.out.nodes.below HE4.out.below).at_ hql
          have hqn : (q : Int) < (n : Int) := by have := HNL.out; omega
          have HVQ : Hid ((nd l q).v = .agg #[.int .i64 (nd l q).kind, .slice (nd l q).ka (nd l q).kids.length (nd l q).kc, .int .i64 (nd l q).n, .string (nd l q).s, .int .i64 (nd l q).at_]) := rfl
          obtain ⟨y, hy⟩ : ∃ y, y = nd l q := ⟨_, rfl⟩
          rw [← hy] at c0 c1 c2 c3 c4 HVQ
          have HY := hidden hy
          clear hy
          go_wp2_with fail
          go_still_tail 5, (by kernel_rfl)
          change wpList _ _ _ _ _ w4.drew
          obtain ⟨w5, hw5⟩ : ∃ w5, w5 = w4.drew := ⟨_, rfl⟩
          have HD5 : Hid (Below w4.heap.size w4 w5) := by rw [hw5]; exact below_drewN w4 1 _
          rw [← hw5]
          have HBE5 : Hid (Below B w w5) := HBE4.out.trans (HD5.out.mono (bld_size HB4.out))
          have HK5 : Hid (Lib.OthersKept 5 (some ob) w w5) := HK4.out.trans (others_below HD5.out)
          have hput := IH.out q (by omega) hql (bs ++ Lib.byteCells (tpre l i j ++ [32])) w5 (HE.out.keep (by rw [← HBB.out]; exact HBE5.out) HK5.out) (by rw [← HBB.out]; exact bld_below HB4.out HD5.out) (by rw [List.length_append, Lib.byteCells_length, List.length_append]; have := HLX.out; simp; omega)
          rw [← HBB.out, ← HY.out, HVQ.out] at hput
          have HPUT := hidden hput
          clear hput hw5 c0 c1 c2 c3 c4 cP cL
          go_wp2_with fail
          refine HPUT.out.mono ?_
          rintro e w6 ⟨rfl, hb6, hbe6, hk6⟩
          have HB6 : Hid (Lib.IsBuilderF 48 5 B ob (bs ++ Lib.byteCells (tpre l i (j + 1))) w6) := by
            show Lib.IsBuilderF _ _ _ _ _ _
            rw [HNX.out, Lib.byteCells_append _ (tx l q), ← List.append_assoc]
            exact hb6
          have HBE6 : Hid (Below B w w6) := HBE5.out.trans hbe6
          have HK6 : Hid (Lib.OthersKept 5 (some ob) w w6) := HK5.out.trans hk6
          clear hb6 hbe6 hk6
          go_wp2_with fail
          go_roundw
          case rel => exact ⟨j + 1, by omega, by go_num, HB6, HBE6, HK6⟩
          case measure => simp [intOf]; omega
        · have HJ : Hid (j = x.kids.length) := by show _ = _; omega
          have HTX : Hid (tx l i = tpre l i j ++ [41]) := by
            show _ = _
            rw [tx_high HA.out HIL.out (by rw [← HX.out]; omega), ← HX.out, HJ.out]
          go_wp2_with fail
          refine (Tryd.Builder_WriteString_k B ob _ _ wr HBj.out (by
            rw [List.length_append, Lib.byteCells_length]
            have h1 := HTXL.out
            rw [HTX.out, List.length_append] at h1
            simp at h1
            show _ + 1 ≤ _
            omega) (bld_size HBj.out)).mono ?_
          rintro e w4 ⟨rfl, hb4, hbe4, hk4'⟩
          have HB4 := hidden hb4
          have HBE4 : Hid (Below B w w4) := HBEj.out.trans hbe4
          have HK4 : Hid (Lib.OthersKept 5 (some ob) w w4) := HKj.out.trans hk4'
          clear hb4 hbe4 hk4'
          go_wp2_with fail
          go_end0
          exact Putt.of rfl (.inr HB4.out) (by rw [HTX.out, Lib.byteCells_append, List.append_assoc]; rfl) HBE4.out HK4.out
end Go.Proofs.YtihcepkdihmjoaaDoor
