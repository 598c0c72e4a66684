/- TreeNodes, TreeCount, TreeHgt, in one text. -/
import Derived.Test.YtagacfcpepoaoaaGreatDoorMGen
import Derived.Test.YtagacfcpepoaoaaGreatDoorMSpec
import Derived.Test.YtagacfcpepoaoaaGreatDoorRows
import Derived.Deep.Slices
import Derived.SizedLaws
import Derived.WalkKit
namespace Go.Proofs.YtagacfcpepoaoaaGreatDoor
open Go.ChangeShapes Go.WideShapes Go.ChangeAt Go.RowKit
set_option linter.unusedVariables false

/-- a node's cells, and its value -/
def Nd.cs (x : Nd) : Array Value := #[.int .i64 x.kind, .slice x.ka x.kids.length x.kc, .int .i64 x.n, .string x.s, .int .i64 x.at_]
def Nd.v (x : Nd) : Value := .agg x.cs
/-- the kids lie where the node says; its N is an int -/
structure Ok (w : World) (x : Nd) : Prop where
  rows : Rows' .i64 w x.ka x.kids.length (fun j => x.kids.getD j 0)
  cap : x.kids.length ≤ x.kc
  none : x.ka = none → x.kc = 0
  len : x.kids.length ≤ 140737488351232
  n0 : -9223372036854775808 ≤ x.n
  n1 : x.n ≤ 9223372036854775807
  s : x.s.size ≤ 140737488351232
theorem Ok.below {w w' : World} {x : Nd} (h : Ok w x) (hb : Below w.heap.size w w') : Ok w' x := ⟨h.rows.below hb, h.cap, h.none, h.len, h.n0, h.n1, h.s⟩
theorem Ok.drewN {w : World} {x : Nd} (h : Ok w x) (q : Nat) : Ok (w.drewN q) x := ⟨h.rows, h.cap, h.none, h.len, h.n0, h.n1, h.s⟩
/-- a node's cells lie there -/
def Cells5 (w : World) (b o : Nat) (x : Nd) : Prop :=
  w.cell? ⟨b, o, none⟩ = some (.int .i64 x.kind) ∧ w.cell? ⟨b, o + 1, none⟩ = some (.slice x.ka x.kids.length x.kc) ∧ w.cell? ⟨b, o + 2, none⟩ = some (.int .i64 x.n) ∧
  w.cell? ⟨b, o + 3, none⟩ = some (.string x.s) ∧ w.cell? ⟨b, o + 4, none⟩ = some (.int .i64 x.at_)
theorem Cells5.below {w w' : World} {b o B : Nat} {x : Nd} (h : Cells5 w b o x) (hb : Below B w w') (hlt : b < B) : Cells5 w' b o x := by
  obtain ⟨h0, h1, h2, h3, h4⟩ := h
  exact ⟨(hb.cell (p := ⟨b, o, none⟩) hlt).trans h0, (hb.cell (p := ⟨b, o + 1, none⟩) hlt).trans h1, (hb.cell (p := ⟨b, o + 2, none⟩) hlt).trans h2, (hb.cell (p := ⟨b, o + 3, none⟩) hlt).trans h3, (hb.cell (p := ⟨b, o + 4, none⟩) hlt).trans h4⟩
/-- a slice of the nodes l -/
def Nodes (w : World) (a : Option Addr) (l : List Nd) : Prop :=
  (0 < l.length → ∃ b off, a = some ⟨b, off, none⟩ ∧ b < w.heap.size ∧ ∀ j, j < l.length → Cells5 w b (off + j * 5) (nd l j)) ∧ ∀ j, j < l.length → Ok w (nd l j)
theorem Nodes.below {w w' : World} {a : Option Addr} {l : List Nd} (h : Nodes w a l) (hb : Below w.heap.size w w') : Nodes w' a l := by
  refine ⟨fun hn => ?_, fun j hj => (h.2 j hj).below hb⟩
  obtain ⟨b, off, ha, hlt, hc⟩ := h.1 hn
  exact ⟨b, off, ha, Nat.lt_of_lt_of_le hlt hb.size, fun j hj => (hc j hj).below hb hlt⟩
theorem Nodes.drewN {w : World} {a : Option Addr} {l : List Nd} (h : Nodes w a l) (q : Nat) : Nodes (w.drewN q) a l := h.below (below_drewN w q _)
theorem Nodes.at_ {w : World} {a : Option Addr} {l : List Nd} (h : Nodes w a l) {j : Nat} (hj : j < l.length) : ∃ b off, a = some ⟨b, off, none⟩ ∧ b < w.heap.size ∧ Cells5 w b (off + j * 5) (nd l j) := by
  obtain ⟨b, off, ha, hlt, hc⟩ := h.1 (by omega)
  exact ⟨b, off, ha, hlt, hc j hj⟩
theorem nd_of {l : List Nd} {i : Nat} (hi : i < l.length) : nd l i = l[i] := by
  unfold nd; rw [List.getD_eq_getElem?_getD, List.getElem?_eq_getElem hi]; rfl

/-- what came in as a slice of nodes -/
def IsNodes (w : World) (a : Option Addr) (len cap : Nat) (l : List Nd) : Prop := l.length = len ∧ len ≤ cap ∧ len ≤ maxLen ∧ Nodes w a l
set_option maxRecDepth 100000 in
theorem fld5 {H : Type} {enc : TypeId × Value → H} {w : World} {base : Nat} {spare : Nat → Bool} {held : Bool} {fuel : Nat} {cs : List Value} {x : DataW H × List MemPlace}
    (h : DataW.trod enc Tryz.prog w base spare held fuel 59 cs = some x) : ∃ (n : Nat) (y0 y1 y2 y3 y4 : DataW H × List MemPlace) (c0 c1 c2 c3 c4 : Value), cs = [c0, c1, c2, c3, c4] ∧ x.1 = .agg [y0.1, y1.1, y2.1, y3.1, y4.1] ∧
      DataW.trod enc Tryz.prog w base spare held n 3 [c0] = some y0 ∧ DataW.trod enc Tryz.prog w base spare held n 45 [c1] = some y1 ∧ DataW.trod enc Tryz.prog w base spare held n 3 [c2] = some y2 ∧
      DataW.trod enc Tryz.prog w base spare held n 9 [c3] = some y3 ∧ DataW.trod enc Tryz.prog w base spare held n 3 [c4] = some y4 := by
  obtain ⟨xs, n, _, hx, hl, hlen, hg⟩ := DataW.trod_struct Tryz.underlying59 h
  have c36 : Tryz.prog.cellsOf 59 = 5 := by kernel_rfl
  have k3 : Tryz.prog.cellsOf 3 = 1 := by kernel_rfl
  have k25 : Tryz.prog.cellsOf 45 = 1 := by kernel_rfl
  have k9 : Tryz.prog.cellsOf 9 = 1 := by kernel_rfl
  rw [c36] at hl
  match cs, hl with
  | [c0, c1, c2, c3, c4], _ =>
    match xs, hlen with
    | [y0, y1, y2, y3, y4], _ =>
      have g0 := hg 0 _ rfl
      have g1 := hg 1 _ rfl
      have g2 := hg 2 _ rfl
      have g3 := hg 3 _ rfl
      have g4 := hg 4 _ rfl
      refine ⟨n, y0, y1, y2, y3, y4, c0, c1, c2, c3, c4, rfl, by rw [hx]; rfl, ?_, ?_, ?_, ?_, ?_⟩
      · simpa [k3] using g0
      · simpa [k25] using g1
      · simpa [k3] using g2
      · simpa [k9] using g3
      · simpa [k3] using g4
theorem weights_mem_all {H : Type} {P : Program} {e : TypeId} {d : DataW H} {n : Nat} (hn : n ∈ d.weights P e) : ∀ {l : List (DataW H)}, d ∈ l → n ∈ DataW.weightsAll P e l
  | [], h => by cases h
  | x :: r, h => by
    simp only [DataW.weightsAll]
    rcases List.mem_cons.1 h with rfl | h'
    · exact List.mem_append.2 (.inl hn)
    · exact List.mem_append.2 (.inr (weights_mem_all hn h'))
theorem wf_i64 {n : Int} (h : (Lit.int .i64 n).wf = true) : -9223372036854775808 ≤ n ∧ n ≤ 9223372036854775807 := by
  have h1 : IntKind.i64.min = -9223372036854775808 := by decide
  have h2 : IntKind.i64.max = 9223372036854775807 := by decide
  simp [Lit.wf, h1, h2] at h
  exact h
theorem node_in {H : Type} {enc : TypeId × Value → H} {w : World} {fuel : Nat} {cs : List Value} {x : DataW H × List MemPlace}
    (h : DataW.trod enc Tryz.prog w 0 (fun _ => true) true fuel 59 cs = some x) (hw : ∀ n ∈ x.1.weights Tryz.prog 59, n ≤ reachBytes) : ∃ y : Nd, cs = y.cs.toList ∧ Ok w y := by
  obtain ⟨n, y0, y1, y2, y3, y4, c0, c1, c2, c3, c4, rfl, hx1, h0, h1, h2, h3, h4⟩ := fld5 h
  have hwe : DataW.weights Tryz.prog 59 (DataW.agg [y0.1, y1.1, y2.1, y3.1, y4.1]) = DataW.weightsEach Tryz.prog [3, 45, 3, 9, 3] [y0.1, y1.1, y2.1, y3.1, y4.1] := by
    simp only [DataW.weights, Tryz.underlying59]
    rfl
  rw [hx1, hwe] at hw
  have w1 : ∀ n ∈ y1.1.weights Tryz.prog 45, n ≤ reachBytes := fun n hn => hw n (DataW.weights_mem_each (j := 1) rfl rfl n hn)
  have w3 : ∀ n ∈ y3.1.weights Tryz.prog 9, n ≤ reachBytes := fun n hn => hw n (DataW.weights_mem_each (j := 3) rfl rfl n hn)
  obtain ⟨n0, e0, _, _⟩ := DataW.trod_int Tryz.underlying3 h0
  obtain ⟨n2, e2, _, f2⟩ := DataW.trod_int Tryz.underlying3 h2
  obtain ⟨s, e3, z3, f3⟩ := DataW.trod_string Tryz.underlying9 h3
  have f3 : s.size ≤ 140737488351232 := by
    have := w3 s.size (by rw [z3]; simp only [DataW.weights]; rw [length_of]; exact List.mem_singleton.2 rfl)
    exact this
  obtain ⟨n4, e4, _, _⟩ := DataW.trod_int Tryz.underlying3 h4
  simp only [List.cons.injEq, and_true] at e0 e2 e3 e4
  subst e0 e2 e3 e4
  have b2 := wf_i64 f2
  rcases open_ints Tryz.underlying45 Tryz.underlying3 (by kernel_rfl) h1 with ⟨hcs, _⟩ | ⟨a, len, cap, zs, hcs, _, hl, hm, hz, z1, hcell, _⟩
  · simp only [List.cons.injEq, and_true] at hcs
    subst hcs
    exact ⟨⟨n0, none, 0, [], n2, s, n4⟩, rfl, ⟨fun h => by simp at h, by simp, fun _ => rfl, Nat.zero_le _, b2.1, b2.2, f3⟩⟩
  · simp only [List.cons.injEq, and_true] at hcs
    subst hcs
    rw [if_pos rfl] at hz
    have hk : (zs.take len).length = len := by rw [List.length_take]; omega
    have b3 : Tryz.prog.bytesOf 3 = 8 := by kernel_rfl
    have hcap : cap ≤ 140737488351232 := by
      have := w1 (cap * 8) (by rw [z1]; simp only [DataW.weights, Tryz.underlying45, b3]; refine List.mem_cons.2 (.inl ?_); simp [lits, List.length_take, List.length_drop]; omega)
      unfold reachBytes at this
      omega
    refine ⟨⟨n0, some a, cap, zs.take len, n2, s, n4⟩, ?_, ⟨?_, ?_, ?_, ?_, b2.1, b2.2, f3⟩⟩
    · show _ = [_, Value.slice (some a) (zs.take len).length cap, _, _, _]
      rw [hk]
    · intro hp
      obtain ⟨b, off, rfl, hc⟩ := ints_at hcell (by show 0 < _; have hp' : 0 < (zs.take len).length := hp; omega)
      refine ⟨b, off, rfl, cell_lt (hc 0 (by have hp' : 0 < (zs.take len).length := hp; omega)), fun j hj => ?_⟩
      have hj' : j < len := by have hj2 : j < (zs.take len).length := hj; omega
      rw [hc j (by omega)]
      show _ = some (Value.int .i64 ((zs.take len).getD j 0))
      rw [List.getD_eq_getElem?_getD, List.getD_eq_getElem?_getD, List.getElem?_take_of_lt hj']
    · show (zs.take len).length ≤ cap; omega
    · intro h; cases h
    · show (zs.take len).length ≤ _; omega
theorem nodes_in {H : Type} {enc : TypeId × Value → H} {w : World} {fuel len cap : Nat} {a : Option Addr} {x : DataW H × List MemPlace}
    (h : DataW.trod enc Tryz.prog w 0 (fun _ => true) true fuel 23 (Value.slice a len cap).cells.toList = some x) (hw : ∀ n ∈ x.1.weights Tryz.prog 23, n ≤ reachBytes) : ∃ l, IsNodes w a len cap l := by
  have c36 : Tryz.prog.cellsOf 59 = 5 := by kernel_rfl
  rcases Go.Deep.open_slice Tryz.underlying23 h with ⟨hcs, _⟩ | ⟨ad, l, cp, m, n, D, Pl, hcs, _, hl, hm, hmm, hxx, hx⟩
  · simp [Value.cells] at hcs
    obtain ⟨rfl, rfl, rfl⟩ := hcs
    exact ⟨[], rfl, Nat.le_refl _, by omega, fun h => by simp at h, fun j hj => by simp at hj⟩
  · simp [Value.cells] at hcs
    obtain ⟨rfl, rfl, rfl⟩ := hcs
    rw [if_pos rfl] at hmm
    have hy : ∀ i, ∃ y : Nd, i < len → Ok w y ∧ ∀ j, j < 5 → w.cell? ((ad.add (i * 5)).add j) = y.cs[j]? := by
      intro i
      by_cases hi : i < len
      · obtain ⟨cs', hc, ht⟩ := hx i (by omega)
        obtain ⟨y, rfl, hok⟩ := node_in ht (fun z hz => hw z (by
          rw [hxx]
          simp only [DataW.weights, Tryz.underlying23]
          refine List.mem_cons.2 (.inr (List.mem_append.2 (.inl ?_)))
          exact weights_mem_all hz (List.mem_map.2 ⟨i, List.mem_range.2 hi, rfl⟩)))
        rw [c36] at hc
        obtain ⟨_, hcl, hat⟩ := World.cells?_some hc
        exact ⟨y, fun _ => ⟨hok, fun j hj => by rw [hat j hj]; simp⟩⟩
      · exact ⟨Nd.zero, fun h => absurd h hi⟩
    obtain ⟨f, hf⟩ := Classical.axiomOfChoice hy
    have hlen : ((List.range len).map f).length = len := by simp
    have hnd : ∀ j, j < len → nd ((List.range len).map f) j = f j := by
      intro j hj
      rw [nd_of (by simpa using hj)]
      simp
    refine ⟨(List.range len).map f, hlen, hl, by omega, ?_, fun j hj => ?_⟩
    · intro hp
      rw [hlen] at hp
      obtain ⟨b, off, spot⟩ := ad
      have h00 := (hf 0 hp).2 0 (by omega)
      have h01 : w.cell? ((Addr.add ⟨b, off, spot⟩ (0 * 5)).add 0) = some (.int .i64 (f 0).kind) := h00
      have hspot : spot = none := by simpa [Addr.add] using World.cell?_spot h01
      subst hspot
      have hb : b < w.heap.size := by simpa [Addr.add] using cell_lt h01
      refine ⟨b, off, rfl, hb, fun j hj => ?_⟩
      rw [hlen] at hj
      rw [hnd j hj]
      have hc := (hf j hj).2
      have e : ∀ i, ((Addr.add ⟨b, off, none⟩ (j * 5)).add i) = ⟨b, off + j * 5 + i, none⟩ := by
        intro i
        rw [Go.WideShapes.add_plain, Go.WideShapes.add_plain]
      refine ⟨?_, ?_, ?_, ?_, ?_⟩
      · have := hc 0 (by omega); rw [e] at this; exact this
      · have := hc 1 (by omega); rw [e] at this; exact this
      · have := hc 2 (by omega); rw [e] at this; exact this
      · have := hc 3 (by omega); rw [e] at this; exact this
      · have := hc 4 (by omega); rw [e] at this; exact this
    · rw [hlen] at hj
      rw [hnd j hj]
      exact (hf j hj).1
end Go.Proofs.YtagacfcpepoaoaaGreatDoor

namespace Go.Proofs.YtagacfcpepoaoaaGreatDoor
open Go.RowKit
set_option linter.unusedVariables false

theorem nodup_le : ∀ (n : Nat) (l : List Int), l.Nodup → (∀ x ∈ l, 0 ≤ x ∧ x < (n : Int)) → l.length ≤ n
  | 0, [], _, _ => Nat.le_refl _
  | 0, x :: r, _, h => by have := h x (by simp); omega
  | n + 1, l, hn, h => by
    by_cases hm : (n : Int) ∈ l
    · have h1 := nodup_le n (l.erase (n : Int)) (hn.erase _) (fun x hx => by
        have h2 := (List.Nodup.mem_erase_iff hn).1 hx
        have h3 := h x h2.2
        have := h2.1
        omega)
      rw [List.length_erase_of_mem hm] at h1
      omega
    · have h1 := nodup_le n l hn (fun x hx => by
        have h3 := h x hx
        have : x ≠ (n : Int) := fun e => hm (e ▸ hx)
        omega)
      omega
theorem take_nd {l : List Nd} {i : Nat} (hi : i < l.length) : l.take (i + 1) = l.take i ++ [nd l i] := by
  rw [List.take_succ_eq_append_getElem hi, nd_of hi]
theorem allK_succ {l : List Nd} {i : Nat} (hi : i < l.length) : allK l (i + 1) = allK l i ++ (nd l i).kids := by
  unfold allK; rw [take_nd hi, List.flatMap_append]; simp
/-- the kids that were seen: of the nodes ahead of i, and the first k of it -/
def seen (l : List Nd) (i k : Nat) : List Int := allK l i ++ (nd l i).kids.take k
theorem seen_zero (l : List Nd) (i : Nat) : seen l i 0 = allK l i := by simp [seen]
theorem seen_full {l : List Nd} {i : Nat} (hi : i < l.length) : seen l i (nd l i).kids.length = seen l (i + 1) 0 := by
  rw [seen_zero, allK_succ hi]; unfold seen; rw [List.take_length]
theorem take_getD' {ks : List Int} {k : Nat} (hk : k < ks.length) : ks.take (k + 1) = ks.take k ++ [ks.getD k 0] := by
  rw [List.take_succ_eq_append_getElem hk, List.getD_eq_getElem?_getD, List.getElem?_eq_getElem hk]; rfl
theorem seen_next {l : List Nd} {i k : Nat} (hk : k < (nd l i).kids.length) : seen l i (k + 1) = seen l i k ++ [(nd l i).kids.getD k 0] := by
  unfold seen; rw [take_getD' hk, List.append_assoc]
structure Sofar (l : List Nd) (i k : Nat) : Prop where
  ahead : ∀ i', i' < i → ∀ x ∈ (nd l i').kids, 0 ≤ x ∧ x < (i' : Int)
  here : ∀ x ∈ (nd l i).kids.take k, 0 ≤ x ∧ x < (i : Int)
  nodup : (seen l i k).Nodup
theorem Sofar.start (l : List Nd) : Sofar l 0 0 := ⟨fun i h => by omega, fun x hx => by simp at hx, by simp [seen, allK]⟩
theorem Sofar.range {l : List Nd} {i k : Nat} (h : Sofar l i k) (hi : i ≤ l.length) : ∀ x ∈ seen l i k, 0 ≤ x ∧ x < (i : Int) := by
  intro x hx
  rcases List.mem_append.1 hx with h1 | h1
  · obtain ⟨y, hy, hxy⟩ := List.mem_flatMap.1 h1
    obtain ⟨j, hj, rfl⟩ := List.mem_iff_getElem.1 hy
    rw [List.length_take] at hj
    rw [List.getElem_take, ← nd_of (by omega)] at hxy
    have := h.ahead j (by omega) x hxy
    omega
  · exact h.here x h1
theorem Sofar.len {l : List Nd} {i k : Nat} (h : Sofar l i k) (hi : i ≤ l.length) : (seen l i k).length ≤ i := nodup_le i _ h.nodup (h.range hi)
theorem Sofar.next {l : List Nd} {i k : Nat} (h : Sofar l i k) (hk : k < (nd l i).kids.length) (h0 : 0 ≤ (nd l i).kids.getD k 0) (h1 : (nd l i).kids.getD k 0 < (i : Int)) (hn : (nd l i).kids.getD k 0 ∉ seen l i k) : Sofar l i (k + 1) := by
  refine ⟨h.ahead, fun x hx => ?_, ?_⟩
  · rw [take_getD' hk] at hx
    rcases List.mem_append.1 hx with h2 | h2
    · exact h.here x h2
    · rw [List.mem_singleton] at h2
      rw [h2]
      exact ⟨h0, h1⟩
  · rw [seen_next hk]
    refine List.nodup_append.2 ⟨h.nodup, by simp, fun a ha b hb => ?_⟩
    rw [List.mem_singleton] at hb
    subst hb
    exact fun e => hn (e ▸ ha)
theorem Sofar.turn {l : List Nd} {i : Nat} (h : Sofar l i (nd l i).kids.length) (hi : i < l.length) : Sofar l (i + 1) 0 := by
  refine ⟨fun i' hi' x hx => ?_, fun x hx => by simp at hx, ?_⟩
  · rcases Nat.lt_or_ge i' i with g | g
    · exact h.ahead i' g x hx
    · obtain rfl : i' = i := by omega
      exact h.here x (by rw [List.take_length]; exact hx)
  · rw [← seen_full hi]; exact h.nodup
theorem Sofar.whole {l : List Nd} (h : Sofar l l.length 0) : Ahead l := fun i hi k hk => h.ahead i hi k hk
/-- what is not so -/
theorem far_not {l : List Nd} {i k : Nat} (hi : i < l.length) (hk : k < (nd l i).kids.length) (h : ¬ (0 ≤ (nd l i).kids.getD k 0 ∧ (nd l i).kids.getD k 0 < (i : Int))) : ¬ IsT l := by
  rintro ⟨_, hA, _⟩
  refine h (hA i hi _ ?_)
  rw [List.getD_eq_getElem?_getD, List.getElem?_eq_getElem hk]
  exact List.getElem_mem hk
theorem allK_prefix (l : List Nd) : ∀ (d i : Nat), i + d ≤ l.length → ∃ r, allK l (i + d) = allK l i ++ r
  | 0, i, _ => ⟨[], by simp⟩
  | d + 1, i, h => by
    obtain ⟨r, hr⟩ := allK_prefix l d i (by omega)
    exact ⟨r ++ (nd l (i + d)).kids, by rw [← Nat.add_assoc, allK_succ (by omega), hr, List.append_assoc]⟩
theorem dup_not {l : List Nd} {i k : Nat} (hi : i < l.length) (hk : k < (nd l i).kids.length) (h : (nd l i).kids.getD k 0 ∈ seen l i k) : ¬ IsT l := by
  rintro ⟨_, _, hN, _⟩
  obtain ⟨r, hr⟩ := allK_prefix l (l.length - (i + 1)) (i + 1) (by omega)
  rw [show i + 1 + (l.length - (i + 1)) = l.length by omega] at hr
  rw [hr] at hN
  have h1 := (List.nodup_append.1 hN).1
  rw [allK_succ hi] at h1
  have h2 : allK l i ++ (nd l i).kids = seen l i (k + 1) ++ (nd l i).kids.drop (k + 1) := by
    unfold seen; rw [List.append_assoc, List.take_append_drop]
  rw [h2] at h1
  have h3 := (List.nodup_append.1 h1).1
  rw [seen_next hk] at h3
  exact (List.nodup_append.1 h3).2.2 _ h _ (List.mem_singleton.2 rfl) rfl
theorem ist_iff {l : List Nd} (h : Sofar l l.length 0) : IsT l ↔ 0 < l.length ∧ (seen l l.length 0).length = l.length - 1 := by
  rw [seen_zero]
  constructor
  · rintro ⟨h1, _, _, h2⟩
    exact ⟨h1, h2⟩
  · rintro ⟨h1, h2⟩
    have := h.nodup
    rw [seen_zero] at this
    exact ⟨h1, h.whole, this, h2⟩
/-- whether something is so, told as a bool -/
def Tells (P : Prop) (w : World) (e : Ending) (w' : World) : Prop := ∃ b : Bool, e = .returned (.bool b) ∧ (b = true ↔ P) ∧ Below w.heap.size w w'
theorem Tells.yes {P : Prop} {w w' : World} {e : Ending} (he : e = .returned (.bool true)) (h : P) (hb : Below w.heap.size w w') : Tells P w e w' := ⟨true, he, by simp [h], hb⟩
theorem Tells.no {P : Prop} {w w' : World} {e : Ending} (he : e = .returned (.bool false)) (h : ¬ P) (hb : Below w.heap.size w w') : Tells P w e w' := ⟨false, he, by simp [h], hb⟩
end Go.Proofs.YtagacfcpepoaoaaGreatDoor

namespace Go.Proofs.YtagacfcpepoaoaaGreatDoor
set_option linter.unusedVariables false

/-- who is under a node -/
inductive Under (l : List Nd) : Nat → Nat → Prop
  | refl (i : Nat) : Under l i i
  | step {i j : Nat} {k : Int} (hk : k ∈ (nd l i).kids) (h : Under l k.toNat j) : Under l i j
theorem Under.le {l : List Nd} (hA : Ahead l) {i j : Nat} (h : Under l i j) : i < l.length → j ≤ i := by
  induction h with
  | refl i => intro _; exact Nat.le_refl _
  | step hk _ ih =>
    intro hi
    have := hA _ hi _ hk
    have := ih (by omega)
    omega
/-- the height by the first j kids -/
def mx (l : List Nd) (i j : Nat) : Nat := (((nd l i).kids.take j).map (fun k => hgt l k.toNat)).foldl (fun h x => max h (1 + x)) 1
theorem mx_zero (l : List Nd) (i : Nat) : mx l i 0 = 1 := by simp [mx]
theorem mx_next {l : List Nd} {i j q : Nat} (hj : j < (nd l i).kids.length) (hq : (nd l i).kids.getD j 0 = (q : Int)) : mx l i (j + 1) = max (mx l i j) (1 + hgt l q) := by
  unfold mx
  rw [take_getD' hj, List.map_append, List.foldl_append, hq]
  simp
theorem mx_full {l : List Nd} (hA : Ahead l) {i : Nat} (hi : i < l.length) : mx l i (nd l i).kids.length = hgt l i := by
  unfold mx
  rw [List.take_length, hgt_eq hA hi]
theorem kid_q {l : List Nd} (hA : Ahead l) {i j : Nat} (hi : i < l.length) (hj : j < (nd l i).kids.length) : ∃ q : Nat, (nd l i).kids.getD j 0 = (q : Int) ∧ q < i ∧ (q : Int) ∈ (nd l i).kids := by
  have hm : (nd l i).kids.getD j 0 ∈ (nd l i).kids := by
    rw [List.getD_eq_getElem?_getD, List.getElem?_eq_getElem hj]; exact List.getElem_mem hj
  have := hA i hi _ hm
  refine ⟨((nd l i).kids.getD j 0).toNat, by omega, by omega, ?_⟩
  rw [Int.toNat_of_nonneg this.1]
  exact hm
/-- all are under the root -/
theorem under_kid {l : List Nd} {i j : Nat} {k : Int} (h : Under l i j) (hk : k ∈ (nd l j).kids) : Under l i k.toNat := by
  induction h with
  | refl i => exact .step hk (.refl _)
  | step hk' _ ih => exact .step hk' (ih hk)
theorem in_allK {l : List Nd} (h : IsT l) {j : Nat} (hj : j < l.length - 1) : ∃ i, i < l.length ∧ (j : Int) ∈ (nd l i).kids := by
  obtain ⟨h0, hA, hN, hL⟩ := h
  have hm : (j : Int) ∈ allK l l.length := by
    by_cases hm : (j : Int) ∈ allK l l.length
    · exact hm
    · exfalso
      have hr : ∀ x ∈ allK l l.length, 0 ≤ x ∧ x < ((l.length - 1 : Nat) : Int) := by
        intro x hx
        obtain ⟨y, hy, hxy⟩ := List.mem_flatMap.1 hx
        obtain ⟨q, hq, rfl⟩ := List.mem_iff_getElem.1 hy
        rw [List.length_take] at hq
        rw [List.getElem_take, ← nd_of (by omega)] at hxy
        have := hA q (by omega) x hxy
        omega
      have h1 := nodup_le (l.length - 1) ((j : Int) :: allK l l.length) (List.nodup_cons.2 ⟨hm, hN⟩) (fun x hx => by
        rcases List.mem_cons.1 hx with rfl | h'
        · omega
        · exact hr x h')
      rw [List.length_cons, hL] at h1
      omega
  obtain ⟨y, hy, hxy⟩ := List.mem_flatMap.1 hm
  obtain ⟨q, hq, rfl⟩ := List.mem_iff_getElem.1 hy
  rw [List.length_take] at hq
  rw [List.getElem_take, ← nd_of (by omega)] at hxy
  exact ⟨q, by omega, hxy⟩
theorem under_root {l : List Nd} (h : IsT l) : ∀ (d j : Nat), l.length - 1 - j ≤ d → j < l.length → Under l (l.length - 1) j
  | 0, j, hd, hj => by
    obtain rfl : j = l.length - 1 := by omega
    exact .refl _
  | d + 1, j, hd, hj => by
    rcases Nat.lt_or_ge j (l.length - 1) with g | g
    · obtain ⟨i, hi, hk⟩ := in_allK h g
      have := h.2.1 i hi _ hk
      have hu := under_root h d i (by omega) hi
      have := under_kid hu hk
      rwa [Int.toNat_natCast] at this
    · obtain rfl : j = l.length - 1 := by omega
      exact .refl _
end Go.Proofs.YtagacfcpepoaoaaGreatDoor
