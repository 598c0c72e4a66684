/- A part of a tree, as a tree of its own. No program. -/
import Derived.Test.YtihcepkdihmjoaaDoorTreeSim
namespace Go.Proofs.YtihcepkdihmjoaaDoor
set_option linter.unusedVariables false

/-- nodes that have the same but for kids -/
def Dt (x y : Nd) : Prop := x.kind = y.kind ∧ x.n = y.n ∧ x.s = y.s ∧ x.at_ = y.at_
/-- L's nodes are nodes of l: the one at j is l's at f j -/
structure Emb (l L : List Nd) (f : Nat → Nat) : Prop where
  lt : ∀ j, j < L.length → f j < l.length
  data : ∀ j, j < L.length → Dt (nd L j) (nd l (f j))
  ahead : Ahead L
  kids : ∀ j, j < L.length → (nd L j).kids.map (fun k => f k.toNat) = (nd l (f j)).kids.map Int.toNat
/-- trees side by side, whose roots are rs -/
structure Forest (L : List Nd) (rs : List Int) : Prop where
  nodup : (allK L L.length ++ rs).Nodup
  len : (allK L L.length ++ rs).length = L.length
  range : ∀ x ∈ allK L L.length ++ rs, 0 ≤ x ∧ x < (L.length : Int)
/-- the nodes of L are those of Q, kids moved by d -/
def Shift (d : Nat) (L Q : List Nd) : Prop := L.length = Q.length ∧ ∀ j, j < L.length → Dt (nd Q j) (nd L j) ∧ (nd Q j).kids = (nd L j).kids.map (fun k => k + (d : Int))
/-- L is the part of l at i -/
structure PartOf (l : List Nd) (i : Nat) (L : List Nd) : Prop where
  emb : ∃ f, Emb l L f ∧ f (L.length - 1) = i
  pos : 0 < L.length
  forest : Forest L [((L.length - 1 : Nat) : Int)]
  size : L.length = sz l i
/-- what is glued behind the first k kids of i -/
structure Glue (l : List Nd) (i k : Nat) (O : List Nd) (rs : List Int) : Prop where
  emb : ∃ f, Emb l O f ∧ rs.map (fun x => f x.toNat) = ((nd l i).kids.take k).map Int.toNat
  forest : Forest O rs
  size : O.length = (((nd l i).kids.take k).map (fun q => sz l q.toNat)).sum
theorem nd_left {A B : List Nd} {j : Nat} (h : j < A.length) : nd (A ++ B) j = nd A j := by
  unfold nd
  rw [List.getD_eq_getElem?_getD, List.getD_eq_getElem?_getD, List.getElem?_append_left h]
theorem nd_right {A B : List Nd} {j : Nat} (h : A.length ≤ j) : nd (A ++ B) j = nd B (j - A.length) := by
  unfold nd
  rw [List.getD_eq_getElem?_getD, List.getD_eq_getElem?_getD, List.getElem?_append_right h]
theorem allK_flat (l : List Nd) : allK l l.length = l.flatMap (fun x => x.kids) := by unfold allK; rw [List.take_length]
theorem allK_append (A B : List Nd) : allK (A ++ B) (A ++ B).length = allK A A.length ++ allK B B.length := by
  rw [allK_flat, allK_flat, allK_flat, List.flatMap_append]
theorem flat_kids (L : List Nd) : L.flatMap (fun x => x.kids) = (List.range L.length).flatMap (fun j => (nd L j).kids) := by
  induction L with
  | nil => rfl
  | cons x r ih =>
    rw [List.flatMap_cons, ih, List.length_cons, List.range_succ_eq_map, List.flatMap_cons, List.flatMap_map]
    rfl
theorem Shift.allK {d : Nat} {L Q : List Nd} (h : Shift d L Q) : allK Q Q.length = (allK L L.length).map (fun k => k + (d : Int)) := by
  rw [allK_flat, allK_flat, flat_kids, flat_kids, ← h.1, List.map_flatMap]
  rw [List.flatMap_def, List.flatMap_def]
  congr 1
  apply List.map_congr_left
  intro j hj
  exact (h.2 j (List.mem_range.1 hj)).2
theorem Glue.start (l : List Nd) (i : Nat) : Glue l i 0 [] [] :=
  ⟨⟨fun _ => 0, ⟨fun j h => by simp at h, fun j h => by simp at h, fun j h => by simp at h, fun j h => by simp at h⟩, by simp⟩, ⟨by simp [allK], by simp [allK], fun x hx => by simp [allK] at hx⟩, by simp⟩
theorem add_inj_nodup {xs : List Int} (d : Int) (h : xs.Nodup) : (xs.map (fun k => k + d)).Nodup := by
  induction xs with
  | nil => simp
  | cons x r ih =>
    rw [List.nodup_cons] at h
    rw [List.map_cons, List.nodup_cons]
    refine ⟨fun hm => ?_, ih h.2⟩
    obtain ⟨y, hy, e⟩ := List.mem_map.1 hm
    have : y = x := by omega
    exact h.1 (this ▸ hy)
theorem Glue.next {l : List Nd} {i k q : Nat} {O L Q : List Nd} {rs : List Int} (h : Glue l i k O rs) (hk : k < (nd l i).kids.length) (hq : (nd l i).kids.getD k 0 = (q : Int)) (hP : PartOf l q L) (hS : Shift O.length L Q) :
    Glue l i (k + 1) (O ++ Q) (rs ++ [((O.length + Q.length - 1 : Nat) : Int)]) := by
  obtain ⟨f, hf, hr⟩ := h.emb
  obtain ⟨g, hg, hl⟩ := hP.emb
  have hQL : Q.length = L.length := hS.1.symm
  have hpos := hP.pos
  have hfr := h.forest.range
  refine ⟨⟨fun j => if j < O.length then f j else g (j - O.length), ⟨?_, ?_, ?_, ?_⟩, ?_⟩, ⟨?_, ?_, ?_⟩, ?_⟩
  · intro j hj
    rw [List.length_append] at hj
    by_cases h1 : j < O.length
    · simp only [if_pos h1]; exact hf.lt j h1
    · simp only [if_neg h1]; exact hg.lt _ (by omega)
  · intro j hj
    rw [List.length_append] at hj
    by_cases h1 : j < O.length
    · simp only [if_pos h1]; rw [nd_left h1]; exact hf.data j h1
    · simp only [if_neg h1]
      rw [nd_right (by omega)]
      obtain ⟨a1, a2, a3, a4⟩ := (hS.2 (j - O.length) (by omega)).1
      obtain ⟨b1, b2, b3, b4⟩ := hg.data (j - O.length) (by omega)
      exact ⟨a1.trans b1, a2.trans b2, a3.trans b3, a4.trans b4⟩
  · intro j hj x hx
    rw [List.length_append] at hj
    by_cases h1 : j < O.length
    · rw [nd_left h1] at hx; exact hf.ahead j h1 x hx
    · rw [nd_right (by omega), (hS.2 (j - O.length) (by omega)).2] at hx
      obtain ⟨y, hy, rfl⟩ := List.mem_map.1 hx
      have := hg.ahead (j - O.length) (by omega) y hy
      omega
  · intro j hj
    rw [List.length_append] at hj
    by_cases h1 : j < O.length
    · simp only [if_pos h1]
      rw [nd_left h1, ← hf.kids j h1]
      apply List.map_congr_left
      intro x hx
      have := hf.ahead j h1 x hx
      rw [if_pos (by omega)]
    · simp only [if_neg h1]
      rw [nd_right (by omega), (hS.2 (j - O.length) (by omega)).2, ← hg.kids (j - O.length) (by omega), List.map_map]
      apply List.map_congr_left
      intro x hx
      have := hg.ahead (j - O.length) (by omega) x hx
      show (if (x + (O.length : Int)).toNat < O.length then f (x + (O.length : Int)).toNat else g ((x + (O.length : Int)).toNat - O.length)) = g x.toNat
      have e : (x + (O.length : Int)).toNat - O.length = x.toNat := by omega
      rw [if_neg (by omega), e]
  · rw [take_getD' hk, List.map_append, List.map_append, hq]
    congr 1
    · rw [← hr]
      apply List.map_congr_left
      intro x hx
      have := hfr x (List.mem_append_right _ hx)
      show (if x.toNat < O.length then f x.toNat else g (x.toNat - O.length)) = f x.toNat
      rw [if_pos (by omega)]
    · simp only [List.map_cons, List.map_nil, Int.toNat_natCast]
      rw [if_neg (by omega), ← hl]
      congr 2
      omega
  · rw [allK_append, hS.allK]
    have hn1 := h.forest.nodup
    have hn2 := hP.forest.nodup
    have hr2 := hP.forest.range
    rw [List.nodup_append] at hn1 hn2
    obtain ⟨a1, a2, a3⟩ := hn1
    obtain ⟨b1, b2, b3⟩ := hn2
    rw [List.nodup_append, List.nodup_append, List.nodup_append]
    refine ⟨⟨a1, add_inj_nodup _ b1, ?_⟩, ⟨a2, by simp, ?_⟩, ?_⟩
    · intro x hx y hy e
      obtain ⟨z, hz, rfl⟩ := List.mem_map.1 hy
      have h1 := hfr x (List.mem_append_left _ hx)
      have h2 := hr2 z (List.mem_append_left _ hz)
      omega
    · intro x hx y hy e
      have h1 := hfr x (List.mem_append_right _ hx)
      have h2 := List.mem_singleton.1 hy
      omega
    · intro x hx y hy e
      rcases List.mem_append.1 hx with h1 | h1
      · rcases List.mem_append.1 hy with h2 | h2
        · exact a3 x h1 y h2 e
        · have g1 := hfr x (List.mem_append_left _ h1)
          have g2 := List.mem_singleton.1 h2
          omega
      · obtain ⟨z, hz, rfl⟩ := List.mem_map.1 h1
        have g1 := hr2 z (List.mem_append_left _ hz)
        rcases List.mem_append.1 hy with h2 | h2
        · have g2 := hfr y (List.mem_append_right _ h2)
          omega
        · have g2 := List.mem_singleton.1 h2
          have g3 : z = ((L.length - 1 : Nat) : Int) := by omega
          exact b3 z hz _ (List.mem_singleton.2 rfl) g3
  · rw [allK_append, hS.allK]
    have h1 := h.forest.len
    have h2 := hP.forest.len
    simp only [List.length_append, List.length_map, List.length_cons, List.length_nil] at h1 h2 ⊢
    omega
  · rw [allK_append, hS.allK]
    intro x hx
    rw [List.length_append]
    have hr2 := hP.forest.range
    rcases List.mem_append.1 hx with h1 | h1
    · rcases List.mem_append.1 h1 with h2 | h2
      · have := hfr x (List.mem_append_left _ h2); omega
      · obtain ⟨z, hz, rfl⟩ := List.mem_map.1 h2
        have := hr2 z (List.mem_append_left _ hz)
        omega
    · rcases List.mem_append.1 h1 with h2 | h2
      · have := hfr x (List.mem_append_right _ h2); omega
      · have := List.mem_singleton.1 h2; omega
  · rw [List.length_append, take_getD' hk, List.map_append, List.sum_append, ← h.size, hq, hQL, hP.size]
    simp
theorem Glue.done {l : List Nd} {i : Nat} {O : List Nd} {rs : List Int} {x : Nd} (hA : Ahead l) (hi : i < l.length) (h : Glue l i (nd l i).kids.length O rs) (hd : Dt x (nd l i)) (hk : x.kids = rs) : PartOf l i (O ++ [x]) := by
  obtain ⟨f, hf, hr⟩ := h.emb
  rw [List.take_length] at hr
  have hfr := h.forest.range
  have hlen : (O ++ [x]).length = O.length + 1 := by simp
  have hx : nd (O ++ [x]) O.length = x := by rw [nd_right (Nat.le_refl _), Nat.sub_self]; rfl
  have hall : allK (O ++ [x]) (O ++ [x]).length = allK O O.length ++ rs := by
    rw [allK_append]
    congr 1
    rw [allK_flat]
    simp [hk]
  refine ⟨⟨fun j => if j < O.length then f j else i, ⟨?_, ?_, ?_, ?_⟩, ?_⟩, by omega, ⟨?_, ?_, ?_⟩, ?_⟩
  · intro j hj
    by_cases h1 : j < O.length
    · simp only [if_pos h1]; exact hf.lt j h1
    · simp only [if_neg h1]; exact hi
  · intro j hj
    by_cases h1 : j < O.length
    · simp only [if_pos h1]; rw [nd_left h1]; exact hf.data j h1
    · simp only [if_neg h1]
      rw [show j = O.length by omega, hx]; exact hd
  · intro j hj y hy
    by_cases h1 : j < O.length
    · rw [nd_left h1] at hy; exact hf.ahead j h1 y hy
    · have e : j = O.length := by omega
      rw [e, hx, hk] at hy
      have := hfr y (List.mem_append_right _ hy)
      omega
  · intro j hj
    by_cases h1 : j < O.length
    · simp only [if_pos h1]
      rw [nd_left h1, ← hf.kids j h1]
      apply List.map_congr_left
      intro y hy
      have := hf.ahead j h1 y hy
      rw [if_pos (by omega)]
    · simp only [if_neg h1]
      rw [show j = O.length by omega, hx, hk, ← hr]
      apply List.map_congr_left
      intro y hy
      have := hfr y (List.mem_append_right _ hy)
      rw [if_pos (by omega)]
  · show (if (O ++ [x]).length - 1 < O.length then f ((O ++ [x]).length - 1) else i) = i
    rw [hlen, if_neg (by omega)]
  · rw [hall, List.nodup_append]
    refine ⟨h.forest.nodup, by simp, ?_⟩
    intro a ha b hb e
    have h1 := hfr a ha
    have h2 := List.mem_singleton.1 hb
    omega
  · rw [hall, List.length_append, h.forest.len, hlen]
    rfl
  · intro y hy
    rw [hall] at hy
    rcases List.mem_append.1 hy with h1 | h1
    · have := hfr y h1; omega
    · have := List.mem_singleton.1 h1; omega
  · rw [hlen, h.size, List.take_length, sz_eq hA hi]
    omega
/-- what is told of a part is what is told of it in the tree -/
theorem Emb.fold {α : Type} {F : Nd → List α → α} (hF : ∀ x y ts, Dt x y → F x ts = F y ts) {l L : List Nd} {f : Nat → Nat} (h : Emb l L f) : ∀ g j, j < L.length → fold F L g j = fold F l g (f j)
  | 0, j, hj => hF _ _ _ (h.data j hj)
  | g + 1, j, hj => by
    simp only [Proofs.YtihcepkdihmjoaaDoor.fold]
    rw [hF _ _ _ (h.data j hj)]
    congr 1
    have e1 : (nd L j).kids.map (fun k => Proofs.YtihcepkdihmjoaaDoor.fold F L g k.toNat) = ((nd L j).kids.map (fun k => f k.toNat)).map (fun q => Proofs.YtihcepkdihmjoaaDoor.fold F l g q) := by
      rw [List.map_map]
      apply List.map_congr_left
      intro k hk
      have := h.ahead j hj k hk
      exact h.fold hF g k.toNat (by omega)
    rw [e1, h.kids j hj, List.map_map]
    rfl
theorem Emb.val {α : Type} {F : Nd → List α → α} (hF : ∀ x y ts, Dt x y → F x ts = F y ts) {l L : List Nd} {f : Nat → Nat} (hA : Ahead l) (h : Emb l L f) {j : Nat} (hj : j < L.length) : val F L j = val F l (f j) := by
  have h1 := fold_stable (f := F) h.ahead (j + 1) j (by omega) hj (j + f j) (by omega)
  have h2 := fold_stable (f := F) hA (f j + 1) (f j) (by omega) (h.lt j hj) (j + f j) (by omega)
  rw [← h1, ← h2]
  exact h.fold hF _ j hj
theorem Dt.t {x y : Nd} (h : Dt x y) : x.t = y.t := by unfold Nd.t; rw [h.2.2.1]
theorem Dt.hd {x y : Nd} (h : Dt x y) : hd x = hd y := by
  unfold Proofs.YtihcepkdihmjoaaDoor.hd wordOf kwOf
  rw [h.t, h.1, h.2.1]
theorem Emb.hgt {l L : List Nd} {f : Nat → Nat} (hA : Ahead l) (h : Emb l L f) {j : Nat} (hj : j < L.length) : hgt L j = hgt l (f j) := h.val (fun _ _ _ _ => rfl) hA hj
theorem Emb.tx {l L : List Nd} {f : Nat → Nat} (hA : Ahead l) (h : Emb l L f) {j : Nat} (hj : j < L.length) : tx L j = tx l (f j) := h.val (fun x y ts hd => by unfold txf; rw [hd.1, hd.hd]) hA hj
theorem Emb.fits {l L : List Nd} {f : Nat → Nat} (h : Emb l L f) (hF : Fits l) : Fits L := by
  intro j hj
  have hd := h.data j hj
  have hk : kk L (nd L j) = kk l (nd l (f j)) := by
    unfold kk
    have e1 : (nd L j).kids.map (fun k => (nd L k.toNat).kind) = ((nd L j).kids.map (fun k => f k.toNat)).map (fun q => (nd l q).kind) := by
      rw [List.map_map]
      apply List.map_congr_left
      intro k hk
      have := h.ahead j hj k hk
      exact (h.data k.toNat (by omega)).1
    rw [e1, h.kids j hj, List.map_map]
    rfl
  have := hF (f j) (h.lt j hj)
  unfold fitB ownB at this ⊢
  rw [hk, hd.1, hd.2.1, hd.2.2.2, hd.t]
  exact this
theorem hgt_under {l : List Nd} (hA : Ahead l) {i j : Nat} (h : Under l i j) : i < l.length → hgt l j ≤ hgt l i := by
  induction h with
  | refl i => intro _; exact Nat.le_refl _
  | step hk hu ih =>
    rename_i i' j' k
    intro hi
    have h1 := hA _ hi _ hk
    have h2 := ih (by omega)
    obtain ⟨m, hm, e⟩ := List.mem_iff_getElem.1 hk
    have e2 : (nd l i').kids.getD m 0 = (k.toNat : Int) := by
      rw [List.getD_eq_getElem?_getD, List.getElem?_eq_getElem hm]
      show (nd l i').kids[m] = _
      rw [e]
      omega
    have h3 := kid_hgt hA hi hm e2
    omega
theorem PartOf.told {l : List Nd} {i : Nat} {L : List Nd} (h : PartOf l i L) (hR : Rt l) (hi : i < l.length) : Rt L ∧ hgt L (L.length - 1) = hgt l i ∧ tx L (L.length - 1) = tx l i := by
  obtain ⟨f, hf, hl⟩ := h.emb
  have hpos := h.pos
  have hA := hR.1.2.1
  have h1 := hf.hgt hA (j := L.length - 1) (by omega)
  have h2 := hf.tx hA (j := L.length - 1) (by omega)
  rw [hl] at h1 h2
  have hn := h.forest.nodup
  have hln := h.forest.len
  rw [List.length_append] at hln
  simp only [List.length_cons, List.length_nil] at hln
  refine ⟨⟨⟨hpos, hf.ahead, (List.nodup_append.1 hn).1, by omega⟩, hf.fits hR.2.1, ?_⟩, h1, h2⟩
  rw [h1]
  have h3 := hgt_under hA (under_root hR.1 (l.length - 1 - i) i (Nat.le_refl _) hi) (by have := hR.1.1; omega)
  have h4 := hR.2.2
  omega
end Go.Proofs.YtihcepkdihmjoaaDoor
