/- TreeHead, TreeHead2, TreeText, TreeSize, TreeText2, TreeFew, TreeItoa, TreeWorks, TreeWordsWalk, TreeWord, in one text. -/
import Derived.Test.YtagacfcpepoaoaaGreatDoorTreeRef3
import Derived.Lib.QuietBelow
import Derived.Test.YtagacfcpepoaoaaGreatDoorMGen
import Derived.StillTailTactics
import Derived.Laws.EntriesVeiled
import Derived.IntWalk
import Derived.Deep.RegionWith
import Derived.Laws.IdiomStrings
namespace Go.Proofs.YtagacfcpepoaoaaGreatDoor
open Go.RowKit
set_option linter.unusedVariables false

end Go.Proofs.YtagacfcpepoaoaaGreatDoor

namespace Go.Proofs.YtagacfcpepoaoaaGreatDoor
open Go.RowKit
set_option linter.unusedVariables false

theorem sgn_len : ∀ k : Fin 17, (tSigns.getD k.val []).length ≤ 2 := by decide +kernel
theorem words_len : ∀ k : Fin 27, (tWords.getD k.val []).length ≤ 8 := by decide +kernel
theorem kinds_len : ∀ k : Fin 4, (tKinds.getD k.val []).length ≤ 4 := by decide +kernel
theorem wordOf_len (x : Nd) (n0 : -9223372036854775808 ≤ x.n) (n1 : x.n ≤ 9223372036854775807) : (wordOf x).length ≤ 21 := by
  unfold wordOf
  split
  · exact Lib.itoa_length_le x.n n0 n1
  · split
    · cases (x.n == 1) <;> decide
    · split
      · unfold sgnOf
        split
        · have := sgn_len ⟨x.n.toNat, by omega⟩
          simp only at this
          omega
        · simp
      · rcases Nat.lt_or_ge x.kind.toNat 27 with h | h
        · have := words_len ⟨x.kind.toNat, h⟩
          simp only at this
          omega
        · rw [List.getD_eq_getElem?_getD, List.getElem?_eq_none (by exact h)]
          simp
theorem kwOf_len (x : Nd) : (kwOf x).length ≤ 4 := by
  unfold kwOf
  split
  · unfold kindW
    split
    · have := kinds_len ⟨x.n.toNat, by omega⟩
      simp only at this
      omega
    · simp
  · simp
/-- the three that make a head -/
def three (x : Nd) : List (List UInt8) := [wordOf x, x.t, kwOf x]
def ne (t : List UInt8) : Bool := !t.isEmpty
theorem hd_three (x : Nd) : hd x = Lib.join ((three x).filter ne) [32] := rfl
theorem join_len : ∀ (ls : List (List UInt8)), (Lib.join ls [32]).length ≤ (ls.map List.length).sum + ls.length
  | [] => by simp [Lib.join_nil]
  | x :: r => by
    rw [Lib.join_cons]
    have h : ∀ r : List (List UInt8), (Lib.joinTail [32] r).length = (r.map List.length).sum + r.length := by
      intro r
      induction r with
      | nil => rfl
      | cons y q ih =>
        unfold Lib.joinTail at ih ⊢
        simp only [List.map_cons, List.flatten_cons, List.length_append, ih, List.sum_cons, List.length_cons, List.length_nil]
        omega
    rw [List.length_append, h]
    simp
    omega
theorem filter_sum (p : List UInt8 → Bool) : ∀ ls : List (List UInt8), ((ls.filter p).map List.length).sum ≤ (ls.map List.length).sum ∧ (ls.filter p).length ≤ ls.length
  | [] => by simp
  | x :: r => by
    have ih := filter_sum p r
    rw [List.filter_cons]
    split
    · simp; omega
    · simp; omega
theorem hd_len (x : Nd) (n0 : -9223372036854775808 ≤ x.n) (n1 : x.n ≤ 9223372036854775807) : (hd x).length ≤ x.t.length + 28 := by
  rw [hd_three]
  have h1 := join_len ((three x).filter ne)
  have h2 := filter_sum ne (three x)
  have h3 := wordOf_len x n0 n1
  have h4 := kwOf_len x
  have h5 : ((three x).map List.length).sum = (wordOf x).length + (x.t.length + ((kwOf x).length + 0)) := rfl
  have h6 : (three x).length = 3 := rfl
  omega
end Go.Proofs.YtagacfcpepoaoaaGreatDoor

namespace Go.Proofs.YtagacfcpepoaoaaGreatDoor
open Go.RowKit
set_option linter.unusedVariables false

/-- the text behind the first j kids -/
def tpre (l : List Nd) (i j : Nat) : List UInt8 := [40] ++ hd (nd l i) ++ ((nd l i).kids.take j).flatMap (fun k => 32 :: tx l k.toNat)
theorem tpre_next {l : List Nd} {i j q : Nat} (hj : j < (nd l i).kids.length) (hq : (nd l i).kids.getD j 0 = (q : Int)) : tpre l i (j + 1) = tpre l i j ++ [32] ++ tx l q := by
  unfold tpre
  rw [take_getD' hj, hq, List.flatMap_append]
  simp
theorem tx_low {l : List Nd} (hA : Ahead l) {i : Nat} (hi : i < l.length) (hk : (nd l i).kind ≤ 4) : tx l i = hd (nd l i) := by
  rw [tx_eq hA hi]; unfold txf; rw [if_pos hk]
theorem tx_high {l : List Nd} (hA : Ahead l) {i : Nat} (hi : i < l.length) (hk : ¬ (nd l i).kind ≤ 4) : tx l i = tpre l i (nd l i).kids.length ++ [41] := by
  rw [tx_eq hA hi]; unfold txf tpre; rw [if_neg hk, List.take_length, List.flatMap_map]
theorem tpre_mono {l : List Nd} (hA : Ahead l) {i : Nat} (hi : i < l.length) : ∀ (d j : Nat), j + d ≤ (nd l i).kids.length → (tpre l i j).length ≤ (tpre l i (j + d)).length
  | 0, j, _ => Nat.le_refl _
  | d + 1, j, h => by
    have ih := tpre_mono hA hi d j (by omega)
    obtain ⟨q, hq, _, _⟩ := kid_q hA hi (show j + d < (nd l i).kids.length by omega)
    rw [← Nat.add_assoc, tpre_next (by omega) hq]
    simp
    omega
theorem tpre_le {l : List Nd} (hA : Ahead l) {i j : Nat} (hi : i < l.length) (hk : ¬ (nd l i).kind ≤ 4) (hj : j ≤ (nd l i).kids.length) : (tpre l i j).length + 1 ≤ (tx l i).length := by
  have := tpre_mono hA hi ((nd l i).kids.length - j) j (by omega)
  rw [show j + ((nd l i).kids.length - j) = (nd l i).kids.length by omega] at this
  rw [tx_high hA hi hk, List.length_append]
  simp
  omega
end Go.Proofs.YtagacfcpepoaoaaGreatDoor

namespace Go.Proofs.YtagacfcpepoaoaaGreatDoor
set_option linter.unusedVariables false

def sumTo (f : Nat → Nat) : Nat → Nat
  | 0 => 0
  | n + 1 => sumTo f n + f n
theorem sum_erase (f : Int → Nat) {x : Int} : ∀ {l : List Int}, x ∈ l → (l.map f).sum = f x + ((l.erase x).map f).sum
  | [], h => by cases h
  | y :: r, h => by
    by_cases e : y = x
    · subst e
      simp
    · have hx : x ∈ r := by
        rcases List.mem_cons.1 h with h' | h'
        · exact absurd h'.symm e
        · exact h'
      have ih := sum_erase f hx
      rw [List.erase_cons_tail (by simpa using e)]
      simp only [List.map_cons, List.sum_cons]
      omega
theorem nodup_sum (f : Nat → Nat) : ∀ (n : Nat) (l : List Int), l.Nodup → (∀ x ∈ l, 0 ≤ x ∧ x < (n : Int)) → (l.map (fun x => f x.toNat)).sum ≤ sumTo f n
  | 0, [], _, _ => Nat.le_refl _
  | 0, x :: r, _, h => by have := h x (by simp); omega
  | n + 1, l, hn, h => by
    by_cases hm : (n : Int) ∈ l
    · have h1 := nodup_sum f n (l.erase (n : Int)) (hn.erase _) (fun x hx => by
        have h2 := (List.Nodup.mem_erase_iff hn).1 hx
        have h3 := h x h2.2
        have := h2.1
        omega)
      rw [sum_erase (fun x => f x.toNat) hm]
      simp only [sumTo, Int.toNat_natCast]
      omega
    · have h1 := nodup_sum f n l hn (fun x hx => by
        have h3 := h x hx
        have : x ≠ (n : Int) := fun e => hm (e ▸ hx)
        omega)
      simp only [sumTo]
      omega
theorem sum_all {l : List Nd} (hA : Ahead l) : ∀ i, i ≤ l.length → sumTo (sz l) i = i + ((allK l i).map (fun x => sz l x.toNat)).sum
  | 0, _ => by simp [sumTo, allK]
  | i + 1, h => by
    have ih := sum_all hA i (by omega)
    rw [allK_succ (by omega), List.map_append, List.sum_append]
    simp only [sumTo]
    rw [ih, sz_eq hA (by omega)]
    omega
theorem sz_root {l : List Nd} (h : IsT l) : sz l (l.length - 1) ≤ l.length := by
  obtain ⟨h0, hA, hN, hL⟩ := h
  have h1 := sum_all hA l.length (Nat.le_refl _)
  have hr : ∀ x ∈ allK l l.length, 0 ≤ x ∧ x < ((l.length - 1 : Nat) : Int) := by
    intro x hx
    obtain ⟨y, hy, hxy⟩ := List.mem_flatMap.1 hx
    obtain ⟨q, hq, rfl⟩ := List.mem_iff_getElem.1 hy
    rw [List.length_take] at hq
    rw [List.getElem_take, ← nd_of (by omega)] at hxy
    have := hA q (by omega) x hxy
    omega
  have h2 := nodup_sum (sz l) (l.length - 1) _ hN hr
  have h3 : sumTo (sz l) l.length = sumTo (sz l) (l.length - 1) + sz l (l.length - 1) := by
    obtain ⟨p, hp⟩ : ∃ p, l.length = p + 1 := ⟨l.length - 1, by omega⟩
    rw [hp, Nat.add_sub_cancel]
    rfl
  omega
theorem sum_mem {xs : List Nat} {x : Nat} (h : x ∈ xs) : x ≤ xs.sum := by
  induction xs with
  | nil => cases h
  | cons y r ih =>
    rw [List.sum_cons]
    rcases List.mem_cons.1 h with rfl | h'
    · omega
    · have := ih h'; omega
theorem sz_kid {l : List Nd} (hA : Ahead l) {i : Nat} (hi : i < l.length) {k : Int} (hk : k ∈ (nd l i).kids) : sz l k.toNat < sz l i := by
  rw [sz_eq hA hi]
  have := sum_mem (List.mem_map.2 ⟨k, hk, rfl⟩ : sz l k.toNat ∈ (nd l i).kids.map (fun k => sz l k.toNat))
  omega
theorem sz_under {l : List Nd} (hA : Ahead l) {i j : Nat} (h : Under l i j) : i < l.length → sz l j ≤ sz l i := by
  induction h with
  | refl i => intro _; exact Nat.le_refl _
  | step hk _ ih =>
    intro hi
    have h1 := hA _ hi _ hk
    have h2 := ih (by omega)
    have h3 := sz_kid hA hi hk
    omega
theorem sz_le {l : List Nd} (h : IsT l) {i : Nat} (hi : i < l.length) : sz l i ≤ l.length := by
  have h1 := sz_under h.2.1 (under_root h (l.length - 1 - i) i (Nat.le_refl _) hi) (by omega)
  have h2 := sz_root h
  omega
/-- names are short -/
theorem name_len {x : Nd} (h : ownB x = true) : x.t.length ≤ 32 := by
  unfold ownB at h
  simp only [Bool.and_eq_true] at h
  have h1 := h.1.2
  split at h1
  · unfold nameB at h1
    simp only [Bool.and_eq_true, decide_eq_true_eq] at h1
    exact h1.1.1.1.2
  · rw [decide_eq_true_eq] at h1
    rw [h1]
    simp
theorem num_bounds {x : Nd} (h : ownB x = true) (n1 : x.n ≤ 9223372036854775807) : -9223372036854775808 ≤ x.n := by
  unfold ownB numB at h
  simp only [Bool.and_eq_true] at h
  have h1 := h.2
  split at h1
  · simp at h1; omega
  · split at h1
    · simp at h1; omega
    · split at h1
      · simp at h1; omega
      · split at h1
        · simp at h1; omega
        · simp at h1; omega
theorem flat_len {l : List Nd} {C : Nat} : ∀ (ks : List Int), (∀ k ∈ ks, (tx l k.toNat).length + 1 ≤ C * sz l k.toNat) → (ks.flatMap (fun k => 32 :: tx l k.toNat)).length ≤ C * (ks.map (fun k => sz l k.toNat)).sum
  | [], _ => by simp
  | k :: r, h => by
    have h1 := h k (by simp)
    have ih := flat_len r (fun k hk => h k (List.mem_cons_of_mem _ hk))
    simp only [List.flatMap_cons, List.length_append, List.length_cons, List.map_cons, List.sum_cons, Nat.mul_add]
    omega
theorem tx_len {l : List Nd} (hA : Ahead l) (hO : ∀ i, i < l.length → ownB (nd l i) = true) (hn : ∀ i, i < l.length → (nd l i).n ≤ 9223372036854775807) : ∀ (N i : Nat), i < N → i < l.length → (tx l i).length + 1 ≤ 64 * sz l i := by
  intro N
  induction N with
  | zero => intro i h; omega
  | succ N ih =>
    intro i hiN hi
    have h1 := name_len (hO i hi)
    have h2 := hd_len (nd l i) (num_bounds (hO i hi) (hn i hi)) (hn i hi)
    have h3 := sz_eq hA hi
    by_cases hk : (nd l i).kind ≤ 4
    · rw [tx_low hA hi hk]
      omega
    · rw [tx_high hA hi hk]
      have h4 := flat_len (l := l) (C := 64) (nd l i).kids (fun k hk' => by
        have := hA i hi k hk'
        exact ih k.toNat (by omega) (by omega))
      unfold tpre
      rw [List.take_length]
      simp only [List.length_append, List.length_cons, List.length_nil]
      omega
theorem own_of {l : List Nd} (h : Fits l) {i : Nat} (hi : i < l.length) : ownB (nd l i) = true := by
  have := h i hi
  unfold fitB at this
  rw [Bool.and_eq_true] at this
  exact this.1
theorem kind_of {l : List Nd} (h : Fits l) {i : Nat} (hi : i < l.length) : 1 ≤ (nd l i).kind ∧ (nd l i).kind ≤ 26 := fit_kind (h i hi)
/-- the text of a tree that is Right is short -/
theorem tx_short {l : List Nd} (h : IsT l) (hF : Fits l) (hn : ∀ i, i < l.length → (nd l i).n ≤ 9223372036854775807) {i : Nat} (hi : i < l.length) : (tx l i).length ≤ 64 * l.length := by
  have h1 := tx_len h.2.1 (fun i hi => own_of hF hi) hn (i + 1) i (by omega) hi
  have h2 := sz_le h hi
  omega
end Go.Proofs.YtagacfcpepoaoaaGreatDoor

namespace Go.Proofs.YtagacfcpepoaoaaGreatDoor
open Go.RowKit
set_option linter.unusedVariables false

end Go.Proofs.YtagacfcpepoaoaaGreatDoor

namespace Go.Proofs.YtagacfcpepoaoaaGreatDoor
open Go.RowKit
set_option linter.unusedVariables false

/-- few nodes, with little in each -/
def Few (l : List Nd) : Prop := l.length ≤ 60 ∧ (allK l l.length).length ≤ 200 ∧ ∀ i, i < l.length → (nd l i).s.size ≤ 40
def FewTold (l : List Nd) (w : World) (e : Ending) (w' : World) : Prop := ∃ b : Bool, e = .returned (.bool b) ∧ (b = true → Few l) ∧ w' = w
theorem FewTold.no {l : List Nd} {w : World} {e : Ending} (he : e = .returned (.bool false)) : FewTold l w e w := ⟨false, he, (fun h => by cases h), rfl⟩
theorem FewTold.yes {l : List Nd} {w : World} {e : Ending} (he : e = .returned (.bool true)) (h : Few l) : FewTold l w e w := ⟨true, he, (fun _ => h), rfl⟩
end Go.Proofs.YtagacfcpepoaoaaGreatDoor

namespace Go.Proofs.YtagacfcpepoaoaaGreatDoor
open Go.RowKit
set_option linter.unusedVariables false

/-- the digits; none for 0 -/
def decs (u : Nat) : List UInt8 := if u = 0 then [] else Lib.decDigits u
theorem decs_next {u : Nat} (h : u ≠ 0) : decs u = decs (u / 10) ++ [UInt8.ofNat (48 + u % 10)] := by
  unfold decs
  rw [if_neg h, Lib.decDigits]
  by_cases h10 : u < 10
  · rw [dif_pos h10, if_pos (by omega), Nat.mod_eq_of_lt h10]; rfl
  · rw [dif_neg h10, if_neg (by omega)]
theorem one_byte (W : World) (u : Nat) (hu : u < 256) : (convert 82 9 (.slice (some ⟨W.heap.size, 0, none⟩) 1 1)).run Tryz.prog (W.alloc (.cells #[.int .u8 (u : Int)] 5)) =
    .ok (.string ⟨#[UInt8.ofNat u]⟩) (W.alloc (.cells #[.int .u8 (u : Int)] 5)) := by
  refine run_convert_bytes_back (P := Tryz.prog) (W.alloc (.cells #[.int .u8 (u : Int)] 5)) 82 9 5 ⟨W.heap.size, 0, none⟩ 1 [UInt8.ofNat u] Tryz.underlying82 Tryz.underlying5 Tryz.underlying9 ?_
  intro j hj
  have hj0 : j = 0 := by simp at hj; exact hj
  subst hj0
  have h := (Held.new W 5 #[.int .u8 (u : Int)]).at_ (j := 0) (v := .int .u8 (u : Int)) rfl
  rw [show (⟨W.heap.size, 0, none⟩ : Addr).add 0 = ⟨W.heap.size, 0, none⟩ from rfl, h]
  have : (UInt8.ofNat u).toNat = u := by simp [UInt8.toNat_ofNat']; omega
  simp [this]
set_option maxRecDepth 100000 in
theorem ritoa_any (n : Nat) (w : World) (hn : n ≤ 9223372036854775807) :
    Calls Tryz.prog 28 #[.int .i64 (n : Int)] w fun e w' => e = .returned (txt (Lib.itoa (n : Int))) ∧ Below w.heap.size w w' := by
  have HLEN := hidden (Lib.itoa_length_le (n : Int) (by omega) (by omega))
  by_cases h0 : n = 0
  · subst h0
    have HI : Hid (Lib.itoa ((0 : Nat) : Int) = [48]) := by
      show _ = _
      rw [show Lib.itoa ((0 : Nat) : Int) = Lib.decDigits 0 from rfl, Lib.decDigits, dif_pos (by omega)]
      rfl
    rw [HI.out]
    go_enter Tryz.func28, Tryz.ntmps28
    go_wp2_with fail
    go_ret
    exact ⟨rfl, Below.refl _ _⟩
  · have HI : Hid (Lib.itoa (n : Int) = decs n) := by
      show _ = _
      unfold Lib.itoa decs
      rw [if_neg (by omega), if_neg h0, Int.toNat_natCast]
    rw [HI.out] at HLEN ⊢
    have hne : ((n : Int) == 0) = false := by simp; omega
    obtain ⟨D0, hD0⟩ : ∃ D0, D0 = decs n := ⟨_, rfl⟩
    rw [← hD0] at HLEN HI ⊢
    have HD0 := hidden hD0
    clear hD0
    go_enter Tryz.func28, Tryz.ntmps28
    go_wp2_with fail
    go_loopw [3, 4] (fun t3 t4 wr => ∃ (u : Nat) (D : List UInt8), u ≤ n ∧ t4 = .int .i64 (u : Int) ∧ t3 = .string ⟨D.toArray⟩ ∧ D.length ≤ 21 ∧ Hid (D0 = decs u ++ D) ∧ Hid (Below w.heap.size w wr)) (fun _ t4 _ => (intOf t4).toNat)
    case atStart => exact ⟨n, [], by omega, rfl, rfl, by simp, (by show _ = _; rw [HD0.out, List.append_nil]), Below.refl _ _⟩
    case round =>
      obtain ⟨u, D, hu, rfl, rfl, hD, HD, HB⟩ := hrel
      by_cases hu0 : u = 0
      · subst hu0
        go_wp2_with fail
        go_ret
        refine ⟨?_, HB.out⟩
        rw [HD.out]
        rfl
      · have hune : ((u : Int) != 0) = true := by simp; omega
        have HNX := hidden (decs_next hu0)
        obtain ⟨R, hR⟩ : ∃ R, R = u % 10 := ⟨_, rfl⟩
        obtain ⟨Q, hQ⟩ : ∃ Q, Q = u / 10 := ⟨_, rfl⟩
        rw [← hR, ← hQ] at HNX
        have hR10 : R < 10 := by omega
        have e1 : (u : Int).tmod 10 = (R : Int) := by rw [Int.tmod_eq_emod_of_nonneg (by omega)]; omega
        have e2 : (u : Int).tdiv 10 = (Q : Int) := by rw [Int.tdiv_eq_ediv_of_nonneg (by omega)]; omega
        have hQu : Q < u := by omega
        clear hR hQ
        have hob := one_byte wr (48 + R) (by omega)
        rw [show ((48 + R : Nat) : Int) = 48 + (R : Int) by omega] at hob
        have HLN : Hid (D.length + 1 ≤ 21) := by
          have h1 := HLEN.out
          rw [HD.out, HNX.out] at h1
          simp at h1
          show _ ≤ _
          omega
        have HBW : Hid (Below w.heap.size w (wr.alloc (.cells #[.int .u8 (48 + (R : Int))] 5))) := HB.out.alloc HB.out.size _
        go_wp2_with fail
        go_roundw
        case rel => exact ⟨Q, UInt8.ofNat (48 + R) :: D, by omega, by go_num, (by congr 1; apply ByteArray.ext; simp), HLN.out, (by show _ = _; rw [HD.out, HNX.out]; simp), HBW.out⟩
        case measure => simp [intOf]; omega
end Go.Proofs.YtagacfcpepoaoaaGreatDoor

namespace Go.Proofs.YtagacfcpepoaoaaGreatDoor
open Go.RowKit
set_option linter.unusedVariables false

end Go.Proofs.YtagacfcpepoaoaaGreatDoor

namespace Go.Proofs.YtagacfcpepoaoaaGreatDoor
open Go.RowKit
set_option linter.unusedVariables false

/-- the signs as the reference lays them -/
def rsCells : Array Value := ((tSigns.drop 1).map txt).toArray
theorem rs_at : ∀ j, j < 16 → rsCells[j]? = some (txt (tSigns.getD (j + 1) []))
  | 0, _ => by kernel_rfl
  | 1, _ => by kernel_rfl
  | 2, _ => by kernel_rfl
  | 3, _ => by kernel_rfl
  | 4, _ => by kernel_rfl
  | 5, _ => by kernel_rfl
  | 6, _ => by kernel_rfl
  | 7, _ => by kernel_rfl
  | 8, _ => by kernel_rfl
  | 9, _ => by kernel_rfl
  | 10, _ => by kernel_rfl
  | 11, _ => by kernel_rfl
  | 12, _ => by kernel_rfl
  | 13, _ => by kernel_rfl
  | 14, _ => by kernel_rfl
  | 15, _ => by kernel_rfl
  | n + 16, h => by omega
set_option maxRecDepth 100000 in
theorem signs_any (w : World) :
    Calls Tryz.prog 58 #[] w fun e w' => e = .returned (.slice (some ⟨w.heap.size, 0, none⟩) 16 16) ∧ w' = w.alloc (.cells rsCells 9) := by
  go_enter Tryz.func58, Tryz.ntmps58
  go_wp2
  go_ret
  exact ⟨rfl, rfl⟩
end Go.Proofs.YtagacfcpepoaoaaGreatDoor

namespace Go.Proofs.YtagacfcpepoaoaaGreatDoor
open Go.RowKit
set_option linter.unusedVariables false

/-- the words as the reference lays them -/
def rwCells : Array Value := #[.string ⟨#[]⟩, .string ⟨#[]⟩, .string ⟨#[110, 105, 108]⟩, .string ⟨#[]⟩, .string ⟨#[]⟩, .string ⟨#[110, 101, 103]⟩, .string ⟨#[110, 111, 116]⟩, .string ⟨#[97, 116]⟩, .string ⟨#[108, 101, 110]⟩, .string ⟨#[110, 101, 119]⟩, .string ⟨#[99, 97, 108, 108]⟩, .string ⟨#[118, 97, 114]⟩, .string ⟨#[115, 101, 116]⟩, .string ⟨#[112, 117, 116]⟩, .string ⟨#[105, 102]⟩, .string ⟨#[119, 104, 105, 108, 101]⟩, .string ⟨#[102, 111, 114]⟩, .string ⟨#[98, 114, 101, 97, 107]⟩, .string ⟨#[99, 111, 110, 116, 105, 110, 117, 101]⟩, .string ⟨#[114, 101, 116, 117, 114, 110]⟩, .string ⟨#[112, 114, 105, 110, 116]⟩, .string ⟨#[100, 111]⟩, .string ⟨#[98, 108, 111, 99, 107]⟩, .string ⟨#[]⟩, .string ⟨#[102, 110]⟩, .string ⟨#[112, 114, 111, 103]⟩]
theorem rw_at : ∀ j, j < 26 → rwCells[j]? = some (txt (tWords.getD (j + 1) []))
  | 0, _ => by kernel_rfl
  | 1, _ => by kernel_rfl
  | 2, _ => by kernel_rfl
  | 3, _ => by kernel_rfl
  | 4, _ => by kernel_rfl
  | 5, _ => by kernel_rfl
  | 6, _ => by kernel_rfl
  | 7, _ => by kernel_rfl
  | 8, _ => by kernel_rfl
  | 9, _ => by kernel_rfl
  | 10, _ => by kernel_rfl
  | 11, _ => by kernel_rfl
  | 12, _ => by kernel_rfl
  | 13, _ => by kernel_rfl
  | 14, _ => by kernel_rfl
  | 15, _ => by kernel_rfl
  | 16, _ => by kernel_rfl
  | 17, _ => by kernel_rfl
  | 18, _ => by kernel_rfl
  | 19, _ => by kernel_rfl
  | 20, _ => by kernel_rfl
  | 21, _ => by kernel_rfl
  | 22, _ => by kernel_rfl
  | 23, _ => by kernel_rfl
  | 24, _ => by kernel_rfl
  | 25, _ => by kernel_rfl
  | n + 26, h => by omega
set_option maxRecDepth 100000 in
set_option maxHeartbeats 8000000 in
theorem rwd_any (x : Nd) (w : World) (h1 : 3 ≤ x.kind) (h2 : x.kind ≤ 26) (h5 : x.kind = 5 → 1 ≤ x.n ∧ x.n ≤ 16) :
    Calls Tryz.prog 29 #[x.v] w fun e w' => e = .returned (txt (wordOf x)) ∧ Below w.heap.size w w' := by
  obtain ⟨K, ka, kc, ks, n, s, at_⟩ := x
  obtain ⟨m, hm⟩ : ∃ m, m = ks.length := ⟨_, rfl⟩
  have HV : Hid (Nd.v ⟨K, ka, kc, ks, n, s, at_⟩ = .agg #[.int .i64 K, .slice ka m kc, .int .i64 n, .string s, .int .i64 at_]) := by rw [hm]; rfl
  rw [HV.out]
  simp only at h1 h2 h5
  clear HV
  obtain ⟨w1, hw1⟩ : ∃ w1, w1 = (w.alloc (.cells #[.int .i64 K, .slice ka m kc, .int .i64 n, .string s, .int .i64 at_] 59)).alloc (.cells #[.string ⟨#[]⟩, .string ⟨#[]⟩, .string ⟨#[110, 105, 108]⟩, .string ⟨#[]⟩, .string ⟨#[]⟩, .string ⟨#[110, 101, 103]⟩, .string ⟨#[110, 111, 116]⟩, .string ⟨#[97, 116]⟩, .string ⟨#[108, 101, 110]⟩, .string ⟨#[110, 101, 119]⟩, .string ⟨#[99, 97, 108, 108]⟩, .string ⟨#[118, 97, 114]⟩, .string ⟨#[115, 101, 116]⟩, .string ⟨#[112, 117, 116]⟩, .string ⟨#[105, 102]⟩, .string ⟨#[119, 104, 105, 108, 101]⟩, .string ⟨#[102, 111, 114]⟩, .string ⟨#[98, 114, 101, 97, 107]⟩, .string ⟨#[99, 111, 110, 116, 105, 110, 117, 101]⟩, .string ⟨#[114, 101, 116, 117, 114, 110]⟩, .string ⟨#[112, 114, 105, 110, 116]⟩, .string ⟨#[100, 111]⟩, .string ⟨#[98, 108, 111, 99, 107]⟩, .string ⟨#[]⟩, .string ⟨#[102, 110]⟩, .string ⟨#[112, 114, 111, 103]⟩] 9) := ⟨_, rfl⟩
  have HB : Hid (Below w.heap.size w w1) := by rw [hw1]; exact ((Below.refl _ _).alloc (Nat.le_refl _) _).alloc (by simp) _
  have HH : Hid (Held w1 (w.heap.size + 1) 9 rwCells) := by
    have h := Held.new (w.alloc (.cells #[.int .i64 K, .slice ka m kc, .int .i64 n, .string s, .int .i64 at_] 59)) 9 rwCells
    have e : (w.alloc (.cells #[.int .i64 K, .slice ka m kc, .int .i64 n, .string s, .int .i64 at_] 59)).heap.size = w.heap.size + 1 := by simp
    rw [e] at h
    rw [hw1]
    exact h
  have HH0 : Hid (Held w1 w.heap.size 59 #[.int .i64 K, .slice ka m kc, .int .i64 n, .string s, .int .i64 at_]) := by
    rw [hw1]
    exact (Held.new w _ _).alloc _
  by_cases k5 : K = 5
  · obtain ⟨g1, g2⟩ := h5 k5
    obtain ⟨k, hk⟩ : ∃ k : Nat, n = (k : Int) + 1 := ⟨(n - 1).toNat, by omega⟩
    subst hk k5
    have hk16 : k < 16 := by omega
    have hki : (k : Int) < 16 := by omega
    have HW : Hid (wordOf ⟨5, ka, kc, ks, (k : Int) + 1, s, at_⟩ = tSigns.getD (k + 1) []) := sgnOf_in (k := k + 1) (by omega)
    rw [HW.out]
    clear HW hm h5 HH
    have HRS := hidden (rs_at k hk16)
    obtain ⟨C, hC⟩ : ∃ C, C = tSigns.getD (k + 1) [] := ⟨_, rfl⟩
    rw [← hC] at HRS ⊢
    clear hC
    go_enter Tryz.func29, Tryz.ntmps29
    rw [veil 2]
    go_wp2_with fail
    rw [← hw1]
    obtain ⟨g, hg⟩ : ∃ g, g = w.heap.size := ⟨_, rfl⟩
    rw [← hg] at HH0 ⊢
    clear hw1 hg
    have c0 := HH0.out.at_ (j := 0) rfl
    have c2 := HH0.out.at_ (j := 2) rfl
    refine wp_veil ?_
    have hwp : IntKind.i64.wrap (k : Int) = (k : Int) := Go.IntWalk.i64_in _ (by omega)
    have hk0 : (0 : Int) ≤ (k : Int) := by omega
    have hkd : decide (k < 16) = true := by simpa using hk16
    go_wp2_with fail
    go_region_with (go_at_call 58; refine (signs_any _).mono ?_; rintro e w2 ⟨rfl, hw2⟩; have HB2 : Hid (Below w1.heap.size w1 w2) := (by rw [hw2]; exact ((below_drewN w1 1 _)).alloc (Nat.le_refl _) _); have hcC : w2.cell? ⟨w1.heap.size, k, none⟩ = some (txt C) := (by rw [hw2]; exact (Held.new w1.drew 9 rsCells).at_ HRS.out); unfold txt at hcC; have c22 := (HH0.out.since HB2.out).at_ (j := 2) rfl; clear hw2)
    all_goals
      go_wp2_with fail
      go_ret
      exact ⟨rfl, HB.out.trans (HB2.out.mono HB.out.size)⟩
  · obtain ⟨k, hk⟩ : ∃ k : Nat, K = (k : Int) + 1 := ⟨(K - 1).toNat, by omega⟩
    subst hk
    have hk26 : k < 26 := by omega
    have hki : (k : Int) < 26 := by omega
    have HW : Hid (wordOf ⟨(k : Int) + 1, ka, kc, ks, n, s, at_⟩ = tWords.getD (k + 1) []) := by
      show wordOf _ = _
      unfold wordOf
      simp only
      rw [if_neg (by omega), if_neg (by omega), if_neg k5]
      rfl
    rw [HW.out]
    clear HW hm h5
    have cC := HH.out.at_ (rw_at k hk26)
    unfold txt at cC ⊢
    obtain ⟨C, hC⟩ : ∃ C, C = tWords.getD (k + 1) [] := ⟨_, rfl⟩
    rw [← hC] at cC ⊢
    clear hC
    have e5 : ((k : Int) + 1 == 5) = false := by simpa using k5
    clear k5
    go_enter Tryz.func29, Tryz.ntmps29
    rw [veil 2]
    go_wp2_with fail
    rw [← hw1]
    have c0 := HH0.out.at_ (j := 0) rfl
    clear hw1
    refine wp_veil ?_
    go_wp2_with fail
    go_ret
    exact ⟨rfl, HB.out⟩
end Go.Proofs.YtagacfcpepoaoaaGreatDoor
