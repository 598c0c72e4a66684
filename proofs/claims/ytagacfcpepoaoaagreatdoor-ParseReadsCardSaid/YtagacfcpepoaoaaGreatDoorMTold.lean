/- ParseParse, ParseTold, ParseWhole, in one text. -/
import Derived.Test.YtagacfcpepoaoaaGreatDoorParseProg
import Derived.Test.YtagacfcpepoaoaaGreatDoorExprLex
import Derived.Test.YtagacfcpepoaoaaGreatDoorMLexOwn
import Derived.Test.YtagacfcpepoaoaaGreatDoorTreeRef3
namespace Go.Proofs.YtagacfcpepoaoaaGreatDoor
open Go.RowKit
set_option linter.unusedVariables false

variable {B g P T N : Nat} {L : List Tk} {w0 w w' : World} {R R' : Bx} {d : Nat} {o : Except Flt PS}
/-- a block that is none of the reader's sorts is written -/
theorem Rd.elsewhere {N p : Nat} {t : TypeId} {d e q : Int} {l : List Nd} {h : List Nat} {cs : Array Value} (H : Rd B g L w R p d l h e q) (hN : Held w N t cs) (h1 : t ≠ 74) (h2 : t ≠ 49) (h3 : t ≠ 59) (h4 : t ≠ 3) (hx : xTop ≤ N) (hg : w.grownBy w' (some N)) : Rd B g L w' R p d l h e q := by
  obtain ⟨cs', fz, hty⟩ := H.ty
  have hgN : g ≠ N := by
    intro e
    subst e
    have h4 : w.heap[g]? = _ := H.box
    have h5 : w.heap[g]? = _ := hN
    rw [h4] at h5
    injection h5 with h6
    injection h6 with _ h7
    exact h1 h7.symm
  have htN : R.tb ≠ N := by
    intro e
    rw [e] at hty
    have h5 : w.heap[N]? = _ := hN
    rw [hty] at h5
    injection h5 with h6
    injection h6 with _ h7
    exact h2 h7.symm
  have K : ∀ k, k ≠ N → k < w.heap.size → w'.heap[k]? = w.heap[k]? := fun k hk hs => hg.block k hs (fun e => hk (by injection e))
  have htb := K R.tb htN H.tlt
  refine ⟨⟨H.box.block (K g hgN H.box.lt), H.toks.block htb, Nat.lt_of_lt_of_le H.tlt hg.size, H.told, ⟨cs', fz, htb.trans hty⟩, World.ownsRow.kept H.own hg (.inr (own_ne H.own hN (fun e => h3 e.symm))), World.ownsRow.kept H.hts hg (.inr (own_ne H.hts hN (fun e => h4 e.symm))), fun x hx => World.ownsRow.kept (H.kids x hx) hg (.inr (own_ne (H.kids x hx) hN (fun e => h4 e.symm))), H.off, H.old, H.fin, H.many,
    H.tabs.keep (fun k hk => K k (by omega) (by have := H.tabs.size; omega)), H.base, fun k hk => ⟨Nat.lt_of_lt_of_le (H.zone k hk).1 hg.size, (H.zone k hk).2⟩⟩, H.len, H.here, H.few, H.low⟩
theorem Any.elsewhere {N : Nat} {t : TypeId} {cs : Array Value} (H : Any B g L w R d o) (hN : Held w N t cs) (h1 : t ≠ 74) (h2 : t ≠ 49) (h3 : t ≠ 59) (h4 : t ≠ 3) (hx : xTop ≤ N) (hg : w.grownBy w' (some N)) : Any B g L w' R d o := by
  cases o with
  | ok s => obtain ⟨p, l, h, r⟩ := H; exact ⟨p, l, h.elsewhere hN h1 h2 h3 h4 hx hg, r⟩
  | error f => obtain ⟨p, l, h, H, r⟩ := H; exact ⟨p, l, h, H.elsewhere hN h1 h2 h3 h4 hx hg, r⟩
theorem KTab.below (h : KTab w) (hb : Below w.heap.size w w') : KTab w' := by
  obtain ⟨t, fr, hk⟩ := h
  exact ⟨t, fr, (hb.block _ (Array.getElem?_eq_some_iff.1 hk).1).trans hk⟩
theorem held_ne {G N : Nat} {t t' : TypeId} {cs cs' : Array Value} (h : Held w G t cs) (h' : Held w N t' cs') (hne : t ≠ t') : G ≠ N := by
  intro e
  subst e
  have h5 : w.heap[G]? = _ := h
  have h6 : w.heap[G]? = _ := h'
  rw [h5] at h6
  injection h6 with h6
  injection h6 with _ h7
  exact hne h7
set_option maxRecDepth 100000 in
set_option maxHeartbeats 4000000 in
theorem newParser_any {L : List Tk} (b off c : Nat) (w : World) (hT : XTabs w) (hK : KTab w) (hL : IsL L) (hk : Toks w b off L) :
    Calls Tryz.prog 11 #[.slice (some ⟨b, off, none⟩) L.length c] w fun en w' => ∃ g P T R, en = .returned (.pointer (some ⟨P, 0, none⟩)) ∧ Any w.heap.size g L w' R 0 (.ok ⟨L, [], []⟩) ∧ Par w' g P T ∧ Below w.heap.size w w' := by
  have HK := hidden hK
  have HTS := hidden hT.size
  have HC := hidden (new_any b off c w hT hL hk)
  have hmf : ∀ (fn : Fn) (first cap : Array Value) (w : World), (Instr.makeFunc fn first cap).run Tryz.prog w = .ok (.func fn first cap) w := fun _ _ _ _ => rfl
  clear hT hL hk hK
  go_enter Tryz.func11, Tryz.ntmps11
  rw [veil 2, veil 3]
  go_wp2_with fail
  refine HC.out.mono ?_
  rintro en w1 ⟨g, R, rfl, hR, hb⟩
  have HGD : Hid (Any w.heap.size g L w1 R 0 (.ok ⟨L, [], []⟩)) := ⟨0, [], hR, rfl, rfl⟩
  have HB := hidden hb
  clear hR hb
  obtain ⟨W1, hW1⟩ : ∃ W1, W1 = w1.alloc (.cells #[.pointer (some ⟨g, 0, none⟩), .slice none 0 0] 42) := ⟨_, rfl⟩
  obtain ⟨P, hP⟩ : ∃ P, P = w1.heap.size := ⟨_, rfl⟩
  have HH : Hid (Held W1 P 42 #[.pointer (some ⟨g, 0, none⟩), .slice none 0 0]) := by rw [hW1, hP]; exact Held.new _ _ _
  have hb1 : Below w1.heap.size w1 W1 := by rw [hW1]; exact (Below.refl _ _).alloc (Nat.le_refl _) _
  have HB1 : Hid (Below w.heap.size w W1) := HB.out.trans (hb1.mono HB.out.size)
  replace HGD := hidden (HGD.out.below hb1)
  have HPL : Hid (w.heap.size ≤ P) := by rw [hP]; exact HB.out.size
  clear hb1
  go_wp2_with fail
  rw [← hW1, ← hP]
  clear hW1 hP
  obtain ⟨W2, hW2⟩ : ∃ W2, W2 = W1.alloc (.cells (tblCells P) 71) := ⟨_, rfl⟩
  obtain ⟨T, hT⟩ : ∃ T, T = W1.heap.size := ⟨_, rfl⟩
  have HT2 : Hid (Held W2 T 71 (tblCells P)) := by rw [hW2, hT]; exact Held.new _ _ _
  have hb2 : Below W1.heap.size W1 W2 := by rw [hW2]; exact (Below.refl _ _).alloc (Nat.le_refl _) _
  have HB2 : Hid (Below w.heap.size w W2) := HB1.out.trans (hb2.mono HB1.out.size)
  replace HGD := hidden (HGD.out.below hb2)
  replace HH := hidden (HH.out.since hb2)
  have HNE : Hid (T ≠ P) := held_ne HT2.out HH.out (by decide)
  have c1 : W2.cell? ⟨P, 1, none⟩ = some (.slice none 0 0) := HH.out.at_ rfl
  have f1 : W2.frozen? ⟨P, 1, none⟩ = false := HH.out.frozen 1
  rw [hW2] at c1 f1
  unfold tblCells at c1 f1
  refine wp_veil ?_
  go_wp2_with fail
  rw [show W1.alloc (.cells #[.string ⟨#[118, 97, 114]⟩, .int .i64 12, .func (.func 34) #[.pointer (some ⟨P, 0, none⟩)] #[],
    .string ⟨#[105, 102]⟩, .int .i64 15, .func (.func 35) #[.pointer (some ⟨P, 0, none⟩)] #[],
    .string ⟨#[119, 104, 105, 108, 101]⟩, .int .i64 16, .func (.func 36) #[.pointer (some ⟨P, 0, none⟩)] #[],
    .string ⟨#[102, 111, 114]⟩, .int .i64 17, .func (.func 37) #[.pointer (some ⟨P, 0, none⟩)] #[],
    .string ⟨#[98, 114, 101, 97, 107]⟩, .int .i64 18, .func (.func 38) #[.pointer (some ⟨P, 0, none⟩)] #[],
    .string ⟨#[99, 111, 110, 116, 105, 110, 117, 101]⟩, .int .i64 19, .func (.func 38) #[.pointer (some ⟨P, 0, none⟩)] #[],
    .string ⟨#[114, 101, 116, 117, 114, 110]⟩, .int .i64 20, .func (.func 39) #[.pointer (some ⟨P, 0, none⟩)] #[],
    .string ⟨#[112, 114, 105, 110, 116]⟩, .int .i64 21, .func (.func 39) #[.pointer (some ⟨P, 0, none⟩)] #[]] 71) = W2 from hW2.symm, ← hT]
  clear c1 f1 hW2 hT
  obtain ⟨W3, hW3⟩ : ∃ W3, W3 = W2.setCell ⟨P, 1, none⟩ (.slice (some ⟨T, 0, none⟩) 8 8) := ⟨_, rfl⟩
  have gr := grown_setCell W2 P 1 (.slice (some ⟨T, 0, none⟩) 8 8)
  have HX : Hid (xTop ≤ P) := by have h1 := HTS.out; have h2 := HPL.out; show _ ≤ _; omega
  have HA : Hid (Any w.heap.size g L W3 R 0 (.ok ⟨L, [], []⟩)) := by rw [hW3]; exact HGD.out.elsewhere HH.out (by decide) (by decide) (by decide) (by decide) HX.out gr
  have HPA : Hid (Par W3 g P T) := by
    rw [hW3]
    refine ⟨HH.out.set 1 _, HT2.out.block (Below.heap_setCell W2 ⟨P, 1, none⟩ _ T HNE.out), ?_⟩
    obtain ⟨t, fr, hk⟩ := HK.out.below HB2.out
    exact ⟨t, fr, (Below.heap_setCell W2 ⟨P, 1, none⟩ _ _ (by have h1 := kw_low; have h2 := HX.out; show 1 ≠ P; omega)).trans hk⟩
  have HB3 : Hid (Below w.heap.size w W3) := by rw [hW3]; exact HB2.out.setCell (p := ⟨P, 1, none⟩) HPL.out _
  rw [← hW3]
  clear hW3 gr
  refine wp_veil ?_
  go_wp2_with fail
  go_ret
  exact ⟨g, P, T, R, rfl, HA.out, HPA.out, HB3.out⟩
end Go.Proofs.YtagacfcpepoaoaaGreatDoor

namespace Go.Proofs.YtagacfcpepoaoaaGreatDoor
open Go.RowKit
set_option linter.unusedVariables false

/-- what Parse tells -/
def PParsed (l : List UInt8) (w : World) (en : Ending) (w' : World) : Prop := Below w.heap.size w w' ∧
  ((∃ x q : Nat, T l 0 = .error (x, q) ∧ en = .returned (.tuple #[.slice none 0 0, .agg #[.int .i64 (x : Int), .int .i64 (q : Int)]])) ∨
   (∃ L v, T l 0 = .ok L ∧ PReads (.prog []) 0 ⟨L, [], []⟩ v ∧
     ((∃ r val, pparsed v = .ok r ∧ en = .returned (.tuple #[val, .agg #[.int .i64 0, .int .i64 0]]) ∧ Given w w' val r) ∨
      (∃ x q : Nat, pparsed v = .error (x, q) ∧ x ≠ 0 ∧ en = .returned (.tuple #[.slice none 0 0, .agg #[.int .i64 (x : Int), .int .i64 (q : Int)]])))))
theorem lflat_eq (L : List Tk) : lflat L = tkCells L := rfl
theorem g_fault {B g : Nat} {L : List Tk} {w : World} {R : Bx} {d : Nat} {s : PS} (H : Good B g L w R d s) :
    Calls Tryz.prog 13 #[.pointer (some ⟨g, 0, none⟩)] w fun en w' => en = .returned (.agg #[.int .i64 0, .int .i64 0]) ∧ Below w.heap.size w w' := by
  obtain ⟨p, l, H, _⟩ := H
  exact fault_any H
theorem Tab.xbelow {w w' : World} (h : Tab w) (hb : Below w.heap.size w w') : Tab w' := h.below hb
theorem T_err {l : List UInt8} {x q : Nat} (h : T l 0 = .error (x, q)) : x ≠ 0 := (er_S h).1
/-- the tree that is read is not empty, and its nodes have few kids -/
theorem prog_shape {L : List Tk} {l : List Int} {s' : PS} (hI : IsTk L) (hL : IsL L) (h : PReads (.prog []) 0 ⟨L, [], []⟩ (.ok (l, s'))) (hr : 1 ≤ s'.r.length) : 0 < s'.l.length ∧ ∀ x ∈ s'.l, x.kids.length ≤ 100000 := by
  have h1 := preads_told hI hL.some h
  obtain ⟨n, hn⟩ := h
  have h2 := prog_left n [] 0 ⟨L, [], []⟩ l s' hn
  have e0 : ([] : List Nd).length = 0 := rfl
  simp only [e0] at h2
  have h3 := hL.many
  refine ⟨?_, fun x hx => Nat.le_trans (h1.2.2.2.1 x hx) (by omega)⟩
  rcases Nat.eq_zero_or_pos s'.l.length with h4 | h4
  · have h5 := h1.2.1
    rw [List.length_eq_zero_iff.1 h4] at h5
    cases h5
  · exact h4
set_option maxRecDepth 100000 in
set_option maxHeartbeats 8000000 in
theorem pparse_any (s : ByteArray) (w : World) (hT : Tab w) (hX : XTabs w) (hK : KTab w) (hs : s.size ≤ 65536) :
    Calls Tryz.prog 5 #[.string s] w (PParsed s.data.toList w) := by
  obtain ⟨W, hW⟩ : ∃ W, W = w.alloc (.cells #[.int .i64 0, .int .i64 0] 26) := ⟨_, rfl⟩
  obtain ⟨A, hA⟩ : ∃ A, A = w.heap.size := ⟨_, rfl⟩
  have HG : Hid (Held W A 26 #[.int .i64 0, .int .i64 0]) := by rw [hW, hA]; exact Held.new _ _ _
  have HB : Hid (Below w.heap.size w W) := by rw [hW]; exact (Below.refl _ _).alloc (Nat.le_refl _) _
  have HAL : Hid (w.heap.size ≤ A) := by rw [hA]; exact Nat.le_refl _
  have HXS := hidden hX.size
  have HX : Hid (XTabs W) := hX.keep (fun k hk => HB.out.block k (by have := hX.size; omega))
  have HK : Hid (KTab W) := hK.below HB.out
  have HTOK := hidden (tokens_any s W (hT.below HB.out) hs)
  obtain ⟨l, hl⟩ : ∃ l, l = s.data.toList := ⟨_, rfl⟩
  have HLEN : Hid (l.length ≤ 65536) := by rw [hl]; exact (show s.data.toList.length ≤ 65536 by rw [Array.length_toList]; exact hs)
  rw [← hl] at HTOK ⊢
  clear hT hX hK hs hl
  go_enter Tryz.func5, Tryz.ntmps5
  rw [veil 1, veil 2, veil 7]
  go_wp2_with fail
  rw [← hW, ← hA]
  clear hW hA
  refine wp_veil ?_
  go_wp2_with fail
  refine HTOK.out.mono ?_
  clear HTOK
  rintro en w1 (⟨L, v, hTl, rfl, hV⟩ | ⟨x, q, hTl, rfl, hb⟩)
  · rw [lflat_eq] at hV
    have HTL := hidden hTl
    have HV := hidden hV
    have hIL := T_isL hTl HLEN.out
    have HIL := hidden hIL
    obtain ⟨a, c, rfl, _, hp⟩ := hV.shape
    obtain ⟨b0, rfl, hg0, hc0⟩ := hp hIL.some
    obtain ⟨W2, hW2⟩ : ∃ W2, W2 = w1.alloc (.cells #[.int .i64 0, .int .i64 0] 26) := ⟨_, rfl⟩
    obtain ⟨A2, hA2⟩ : ∃ A2, A2 = w1.heap.size := ⟨_, rfl⟩
    have HG2 : Hid (Held W2 A2 26 #[.int .i64 0, .int .i64 0]) := by rw [hW2, hA2]; exact Held.new _ _ _
    have hbW : Below w1.heap.size w1 W2 := by rw [hW2]; exact (Below.refl _ _).alloc (Nat.le_refl _) _
    have HBW : Hid (Below W.heap.size W W2) := hV.2.trans (hbW.mono hV.2.size)
    have HTK : Hid (Toks W2 b0 0 L) := fun j u hj => by rw [Nat.zero_add]; exact ((hbW.cell (p := ⟨b0, j, none⟩) hg0).trans (hc0 j u hj))
    have HA2 : Hid (w.heap.size ≤ A2) := by rw [hA2]; have h1 := HB.out.size; have h2 := hV.2.size; show _ ≤ _; omega
    have HA2L : Hid (W.heap.size ≤ A2) := by rw [hA2]; exact hV.2.size
    have HNE : Hid (A ≠ A2) := by have h1 := HG.out.lt; have h2 := HA2L.out; show A ≠ A2; omega
    have HNP := hidden (newParser_any b0 0 c W2 (HX.out.keep (fun k hk => HBW.out.block k (by have := HX.out.size; omega))) (HK.out.below HBW.out) hIL HTK.out)
    clear hTl hV hIL hp hg0 hc0 hbW
    go_wp2_with fail
    rw [← hW2, ← hA2]
    clear hW2 hA2
    have z0 : W2.cell? ⟨A2, 0, none⟩ = some (.int .i64 0) := HG2.out.at_ rfl
    refine wp_veil ?_
    go_wp2_with fail
    refine HNP.out.mono ?_
    clear HNP
    rintro en w3 ⟨g, P, TB, R, rfl, hany, hpar, hb3⟩
    have HANY := hidden hany
    have HPAR := hidden hpar
    have HB3 := hidden hb3
    clear hany hpar hb3 z0
    go_wp2_with fail
    refine (program_any HANY.out HPAR.out (by omega) (fun s' e => by injection e with e; subst e; exact ⟨by show 0 + L.length ≤ _; omega, Nat.le_refl _⟩)).mono ?_
    rintro en w4 ⟨u, R4, ⟨x4, rfl⟩, hdo, hf4, ha4⟩
    have HDO := hidden hdo.to_preads
    have HP4 := hidden (HPAR.out.keep HANY.out hf4)
    have HB4 := hidden (HB3.out.trans (HANY.out.below_base hf4))
    have HA4 := hidden ha4
    clear hdo hf4 ha4 HANY HPAR HB3
    have hp := HP4.out.c0
    go_wp2_with fail
    match u, HDO, HA4 with
    | .error (fx, fq), HDO, HA4 =>
      have HNZ : Hid (fx ≠ 0) := by obtain ⟨_, _, _, _, h⟩ := HA4.out; exact h
      refine (b_fault (show Bad W2.heap.size g L w4 R4 0 (fx, fq) from HA4.out)).mono ?_
      rintro en w5 ⟨rfl, hb5⟩
      have HB5 := hidden (HB4.out.trans (hb5.mono HB4.out.size))
      have HH2 := hidden (HG2.out.since HB5.out)
      have HH1 := hidden ((HG.out.since HBW.out).since HB5.out)
      clear hb5 hp
      have y0 : w5.cell? ⟨A2, 0, none⟩ = some (.int .i64 0) := HH2.out.at_ rfl
      have y1 : w5.cell? ⟨A2, 1, none⟩ = some (.int .i64 0) := HH2.out.at_ rfl
      have f0 := HH2.out.frozen 0
      have f1 := HH2.out.frozen 1
      go_wp2_with fail
      obtain ⟨W6, hW6⟩ : ∃ W6, W6 = (w5.setCell ⟨A2, 0, none⟩ (.int .i64 (fx : Int))).setCell ⟨A2, 1, none⟩ (.int .i64 (fq : Int)) := ⟨_, rfl⟩
      have HN6 : Hid (Held W6 A2 26 #[.int .i64 (fx : Int), .int .i64 (fq : Int)]) := by rw [hW6]; exact (HH2.out.set 0 _).set 1 _
      have HALL : Hid (Below w.heap.size w W6) := by rw [hW6]; exact ((HB.out.trans ((HBW.out.trans (HB5.out.mono HBW.out.size)).mono HB.out.size)).setCell (p := ⟨A2, 0, none⟩) HA2.out _).setCell (p := ⟨A2, 1, none⟩) HA2.out _
      have HM6 : Hid (Held W6 A 26 #[.int .i64 0, .int .i64 0]) := by rw [hW6]; exact (HH1.out.block (Below.heap_setCell w5 ⟨A2, 0, none⟩ _ A HNE.out)).block (Below.heap_setCell _ ⟨A2, 1, none⟩ _ A HNE.out)
      rw [← hW6]
      clear hW6 y0 y1 f0 f1
      have y0 : W6.cell? ⟨A2, 0, none⟩ = some (.int .i64 (fx : Int)) := HN6.out.at_ rfl
      have y1 : W6.cell? ⟨A2, 1, none⟩ = some (.int .i64 (fq : Int)) := HN6.out.at_ rfl
      have HD6 : Hid (Held W6.drew A 26 #[.int .i64 0, .int .i64 0]) := HM6.out.block rfl
      have hxb : ((fx : Int) != 0) = true := by have := HNZ.out; simp; omega
      refine wp_veil ?_
      go_wp2_with fail
      go_still_tail 2, (by kernel_rfl)
      change wpList _ _ _ _ _ W6.drew
      have x0 : W6.drew.cell? ⟨A, 0, none⟩ = some (.int .i64 0) := HD6.out.at_ rfl
      have x1 : W6.drew.cell? ⟨A, 1, none⟩ = some (.int .i64 0) := HD6.out.at_ rfl
      have e0 := HD6.out.frozen 0
      have e1 := HD6.out.frozen 1
      obtain ⟨W7, hW7⟩ : ∃ W7, W7 = W6.drew := ⟨_, rfl⟩
      have HB7 : Hid (Below w.heap.size w W7) := by rw [hW7]; exact HALL.out.trans ((below_drew W6).mono HALL.out.size)
      rw [← hW7] at x0 x1 e0 e1 HD6 ⊢
      clear hW7
      go_wp2_with fail
      obtain ⟨W', hW', hH, hBel⟩ := two_told HD6.out HB7.out HAL.out (.int .i64 (fx : Int)) (.int .i64 (fq : Int))
      rw [← hW']
      have r0 : W'.cell? ⟨A, 0, none⟩ = some (.int .i64 (fx : Int)) := hH.at_ rfl
      have r1 : W'.cell? ⟨A, 1, none⟩ = some (.int .i64 (fq : Int)) := hH.at_ rfl
      clear hW' hH
      exact bodyPost_ret (v := .tuple #[.slice none 0 0, .agg #[.int .i64 (fx : Int), .int .i64 (fq : Int)]]) (by simp [results, Tryz.results5, go_sem, r0, r1]) rfl ⟨hBel, .inr ⟨L, _, HTL.out, HDO.out, .inr ⟨fx, fq, rfl, HNZ.out, rfl⟩⟩⟩
    | .ok (l1, s1), HDO, HA4 =>
      refine (g_fault (show Good W2.heap.size g L w4 R4 0 s1 from HA4.out)).mono ?_
      rintro en w5 ⟨rfl, hb5⟩
      have HB5 := hidden (HB4.out.trans (hb5.mono HB4.out.size))
      have HH2 := hidden (HG2.out.since HB5.out)
      have HH1 := hidden ((HG.out.since HBW.out).since HB5.out)
      have HP5 : Hid (Held w5 P 42 #[.pointer (some ⟨g, 0, none⟩), .slice (some ⟨TB, 0, none⟩) 8 8]) := HP4.out.box.since hb5
      have HA5 : Hid (Any W2.heap.size g L w5 R4 0 (.ok s1)) := Any.below (show Any W2.heap.size g L w4 R4 0 (.ok s1) from HA4.out) hb5
      clear hb5 hp
      have y0 : w5.cell? ⟨A2, 0, none⟩ = some (.int .i64 0) := HH2.out.at_ rfl
      have y1 : w5.cell? ⟨A2, 1, none⟩ = some (.int .i64 0) := HH2.out.at_ rfl
      have f0 := HH2.out.frozen 0
      have f1 := HH2.out.frozen 1
      go_wp2_with fail
      obtain ⟨W6, hW6⟩ : ∃ W6, W6 = (w5.setCell ⟨A2, 0, none⟩ (.int .i64 0)).setCell ⟨A2, 1, none⟩ (.int .i64 0) := ⟨_, rfl⟩
      have HN6 : Hid (Held W6 A2 26 #[.int .i64 0, .int .i64 0]) := by rw [hW6]; exact (HH2.out.set 0 _).set 1 _
      have HALL : Hid (Below w.heap.size w W6) := by rw [hW6]; exact ((HB.out.trans ((HBW.out.trans (HB5.out.mono HBW.out.size)).mono HB.out.size)).setCell (p := ⟨A2, 0, none⟩) HA2.out _).setCell (p := ⟨A2, 1, none⟩) HA2.out _
      have HM6 : Hid (Held W6 A 26 #[.int .i64 0, .int .i64 0]) := by rw [hW6]; exact (HH1.out.block (Below.heap_setCell w5 ⟨A2, 0, none⟩ _ A HNE.out)).block (Below.heap_setCell _ ⟨A2, 1, none⟩ _ A HNE.out)
      have HXA : Hid (xTop ≤ A2) := Nat.le_trans HXS.out HA2.out
      have HA6 : Hid (Any W2.heap.size g L W6 R4 0 (.ok s1)) := by rw [hW6]; exact (HA5.out.elsewhere HH2.out (by decide) (by decide) (by decide) (by decide) HXA.out (grown_setCell _ _ _ _)).elsewhere (HH2.out.set 0 _) (by decide) (by decide) (by decide) (by decide) HXA.out (grown_setCell _ _ _ _)
      have HPN : Hid (P ≠ A2) := held_ne HP5.out HH2.out (by decide)
      have HP6 : Hid (Held W6 P 42 #[.pointer (some ⟨g, 0, none⟩), .slice (some ⟨TB, 0, none⟩) 8 8]) := by rw [hW6]; exact (HP5.out.block (Below.heap_setCell w5 ⟨A2, 0, none⟩ _ P HPN.out)).block (Below.heap_setCell _ ⟨A2, 1, none⟩ _ P HPN.out)
      have HSH : Hid (0 < s1.l.length ∧ ∀ x ∈ s1.l, x.kids.length ≤ 100000) := prog_shape (T_isTk HTL.out) HIL.out HDO.out (Good.some (show Good W2.heap.size g L W6 R4 0 s1 from HA6.out))
      rw [← hW6]
      clear hW6 y0 y1 f0 f1
      have z0 : W6.cell? ⟨A2, 0, none⟩ = some (.int .i64 0) := HN6.out.at_ rfl
      have hp : W6.cell? ⟨P, 0, none⟩ = some (.pointer (some ⟨g, 0, none⟩)) := HP6.out.at_ rfl
      refine wp_veil ?_
      go_wp2_with fail
      refine (g_tree (show Good W2.heap.size g L W6 R4 0 s1 from HA6.out) HSH.out.1 HSH.out.2).mono ?_
      rintro en w7 ⟨val, rfl, hgv, hb7⟩
      have HB7 := hidden (HALL.out.trans (hb7.mono HALL.out.size))
      have HH7 := hidden (HM6.out.since hb7)
      have HGV := hidden hgv
      have HSZ : Hid (w.heap.size ≤ W6.heap.size) := HALL.out.size
      clear hb7 hgv z0 hp
      have y0 : w7.cell? ⟨A, 0, none⟩ = some (.int .i64 0) := HH7.out.at_ rfl
      have y1 : w7.cell? ⟨A, 1, none⟩ = some (.int .i64 0) := HH7.out.at_ rfl
      have f0 := HH7.out.frozen 0
      have f1 := HH7.out.frozen 1
      go_wp2_with fail
      obtain ⟨W', hW', hH, hBel⟩ := two_told HH7.out HB7.out HAL.out (.int .i64 0) (.int .i64 0)
      have hgr : Given w W' val s1.l := by
        obtain ⟨l', h1, h2, h3⟩ := HGV.out.base HSZ.out
        have gr1 := grown_setCell w7 A 0 (.int .i64 0)
        have gr2 := grown_setCell (w7.setCell ⟨A, 0, none⟩ (.int .i64 0)) A 1 (.int .i64 0)
        have hx1 := HH7.out.set 0 (.int .i64 0)
        refine ⟨l', ?_, h2, fun x hx => ?_⟩
        · have k1 := World.ownsRow.kept h1 gr1 (.inr (own_ne h1 HH7.out (by decide)))
          rw [hW']
          exact World.ownsRow.kept k1 gr2 (.inr (own_ne k1 hx1 (by decide)))
        · have k1 := World.ownsRow.kept (h3 x hx) gr1 (.inr (own_ne (h3 x hx) HH7.out (by decide)))
          rw [hW']
          exact World.ownsRow.kept k1 gr2 (.inr (own_ne k1 hx1 (by decide)))
      rw [← hW']
      have r0 : W'.cell? ⟨A, 0, none⟩ = some (.int .i64 0) := hH.at_ rfl
      have r1 : W'.cell? ⟨A, 1, none⟩ = some (.int .i64 0) := hH.at_ rfl
      clear hW' hH
      exact bodyPost_ret (v := .tuple #[val, .agg #[.int .i64 0, .int .i64 0]]) (by simp [results, Tryz.results5, go_sem, r0, r1]) rfl ⟨hBel, .inr ⟨L, _, HTL.out, HDO.out, .inl ⟨_, val, rfl, rfl, hgr⟩⟩⟩
  · have HTL := hidden hTl
    have HNZ : Hid (x ≠ 0) := T_err hTl
    obtain ⟨W6, hW6⟩ : ∃ W6, W6 = w1.alloc (.cells #[.int .i64 (x : Int), .int .i64 (q : Int)] 26) := ⟨_, rfl⟩
    obtain ⟨A2, hA2⟩ : ∃ A2, A2 = w1.heap.size := ⟨_, rfl⟩
    have HN6 : Hid (Held W6 A2 26 #[.int .i64 (x : Int), .int .i64 (q : Int)]) := by rw [hW6, hA2]; exact Held.new _ _ _
    have hb6 : Below w1.heap.size w1 W6 := by rw [hW6]; exact (Below.refl _ _).alloc (Nat.le_refl _) _
    have HBX : Hid (Below W.heap.size W W6) := hb.trans (hb6.mono hb.size)
    have HM6 : Hid (Held W6 A 26 #[.int .i64 0, .int .i64 0]) := HG.out.since HBX.out
    have HALL : Hid (Below w.heap.size w W6) := HB.out.trans (HBX.out.mono HB.out.size)
    clear hTl hb hb6
    go_wp2_with fail
    rw [← hW6, ← hA2]
    clear hW6 hA2
    have y0 : W6.cell? ⟨A2, 0, none⟩ = some (.int .i64 (x : Int)) := HN6.out.at_ rfl
    have y1 : W6.cell? ⟨A2, 1, none⟩ = some (.int .i64 (q : Int)) := HN6.out.at_ rfl
    have HD6 : Hid (Held W6.drew A 26 #[.int .i64 0, .int .i64 0]) := HM6.out.block rfl
    have hxb : ((x : Int) != 0) = true := by have := HNZ.out; simp; omega
    refine wp_veil ?_
    go_wp2_with fail
    go_still_tail 2, (by kernel_rfl)
    change wpList _ _ _ _ _ W6.drew
    have x0 : W6.drew.cell? ⟨A, 0, none⟩ = some (.int .i64 0) := HD6.out.at_ rfl
    have x1 : W6.drew.cell? ⟨A, 1, none⟩ = some (.int .i64 0) := HD6.out.at_ rfl
    have e0 := HD6.out.frozen 0
    have e1 := HD6.out.frozen 1
    obtain ⟨W7, hW7⟩ : ∃ W7, W7 = W6.drew := ⟨_, rfl⟩
    have HB7 : Hid (Below w.heap.size w W7) := by rw [hW7]; exact HALL.out.trans ((below_drew W6).mono HALL.out.size)
    rw [← hW7] at x0 x1 e0 e1 HD6 ⊢
    clear hW7
    go_wp2_with fail
    obtain ⟨W', hW', hH, hBel⟩ := two_told HD6.out HB7.out HAL.out (.int .i64 (x : Int)) (.int .i64 (q : Int))
    rw [← hW']
    have r0 : W'.cell? ⟨A, 0, none⟩ = some (.int .i64 (x : Int)) := hH.at_ rfl
    have r1 : W'.cell? ⟨A, 1, none⟩ = some (.int .i64 (q : Int)) := hH.at_ rfl
    clear hW' hH
    exact bodyPost_ret (v := .tuple #[.slice none 0 0, .agg #[.int .i64 (x : Int), .int .i64 (q : Int)]]) (by simp [results, Tryz.results5, go_sem, r0, r1]) rfl ⟨hBel, .inl ⟨x, q, HTL.out, rfl⟩⟩
end Go.Proofs.YtagacfcpepoaoaaGreatDoor

namespace Go.Proofs.YtagacfcpepoaoaaGreatDoor
open Go.RowKit
set_option linter.unusedVariables false

def Wh (l : List Nd) : Prop := Rt l ∧ (nd l (l.length - 1)).kind = 26

end Go.Proofs.YtagacfcpepoaoaaGreatDoor
