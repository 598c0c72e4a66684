/- The walks through Ints and Sorted: numbers in their order, each once. -/
import Derived.Test.YtkaaokaiealbmaaDoorBitsRef
namespace Go.Proofs.YtkaaokaiealbmaaDoor
open Go.RowKit
set_option linter.unusedVariables false

theorem Built.shape {w0 w : World} {v : Value} {xs : List Int} (h : Built w0 w v xs) : ∃ a cap, v = .slice a xs.length cap ∧ Rows' .i64 w a xs.length (fun j => xs.getD j 0) ∧ (a = none → xs.length = 0 ∧ cap = 0) ∧ xs.length ≤ cap := by
  obtain ⟨a, cap, rfl, hr, hn⟩ := h.rows'
  refine ⟨a, cap, rfl, hr, hn, ?_⟩
  rcases h.1.2 with ⟨h1, h2⟩ | ⟨g, cap', cur, h1, _, _, h2, _⟩
  · omega
  · injection h1 with _ _ h4; omega

theorem ints_any (a : Option Addr) (n c : Nat) (f : Nat → Int) (w : World) (hn : n ≤ 100000) (hc : a = none → n = 0 ∧ c = 0) (hr : Rows' .i64 w a n f) :
    Calls Tryd.prog 25 #[.slice a n c] w fun e w' => ∃ v, e = .returned v ∧ Built w w' v (cellsOf .i64 n f) ∧ v ≠ .slice none 0 0 := by
  have HR := hidden hr
  have HC := hidden hc
  clear hr hc
  go_enter Tryd.func25, Tryd.ntmps25
  go_wp2_with (at_builtin; refine wpList_whole rfl (.tmp 3) (.tmp 4) 22 22 3 .i64 Tryd.underlying22 Tryd.underlying22 infoI rfl w _ _ 0 [] a n c f rfl rfl (own_start w _) (below_start w _) (HR.out.below (below_start w _)) HC.out (by omega) (by omega) (fun h => by cases h) ?_; intro v1 w1 hown1 hbel1 hv1)
  have HO := hidden hown1
  have HB := hidden hbel1
  have HV := hidden hv1
  clear hown1 hbel1 hv1
  go_wp2_with fail
  go_ret
  have h1 := HO.out
  rw [Nat.zero_add, List.nil_append] at h1
  exact ⟨v1, rfl, ⟨by rw [cellsOf_length]; exact h1, HB.out⟩, HV.out⟩

/-- how many of the first ones are below x -/
def pre : List Int → Int → Nat
  | [], _ => 0
  | y :: ys, x => if y < x then pre ys x + 1 else 0
theorem pre_le : ∀ xs x, pre xs x ≤ xs.length
  | [], _ => Nat.le_refl _
  | y :: ys, x => by have := pre_le ys x; unfold pre; split <;> simp <;> omega
theorem pre_lt : ∀ (xs : List Int) (x : Int) (j : Nat), j < pre xs x → j < xs.length ∧ xs.getD j 0 < x
  | [], _, j, h => by simp [pre] at h
  | y :: ys, x, j, h => by
    unfold pre at h
    by_cases hy : y < x
    · rw [if_pos hy] at h
      rcases j with _ | j
      · exact ⟨by simp, by simpa using hy⟩
      · have := pre_lt ys x j (by omega)
        exact ⟨by simp; omega, by simpa using this.2⟩
    · rw [if_neg hy] at h; omega
theorem pre_stop : ∀ (xs : List Int) (x : Int), ¬ (pre xs x < xs.length ∧ xs.getD (pre xs x) 0 < x)
  | [], _ => by simp [pre]
  | y :: ys, x => by
    unfold pre
    by_cases hy : y < x
    · rw [if_pos hy]
      have := pre_stop ys x
      simpa using this
    · rw [if_neg hy]
      simp; omega
/-- x put where it belongs -/
def ins (xs : List Int) (x : Int) : List Int := xs.take (pre xs x) ++ x :: xs.drop (pre xs x)
theorem ins_cons (y : Int) (ys : List Int) (x : Int) : ins (y :: ys) x = if y < x then y :: ins ys x else x :: y :: ys := by
  unfold ins
  by_cases hy : y < x
  · rw [if_pos hy, show pre (y :: ys) x = pre ys x + 1 by simp [pre, hy]]; rfl
  · rw [if_neg hy, show pre (y :: ys) x = 0 by simp [pre, hy]]; rfl
theorem mem_ins {xs : List Int} {x y : Int} : y ∈ ins xs x ↔ y = x ∨ y ∈ xs := by
  unfold ins
  rw [List.mem_append, List.mem_cons]
  have h : y ∈ xs ↔ y ∈ xs.take (pre xs x) ∨ y ∈ xs.drop (pre xs x) := by rw [← List.mem_append, List.take_append_drop]
  rw [h]
  constructor
  · rintro (h | h | h)
    · exact .inr (.inl h)
    · exact .inl h
    · exact .inr (.inr h)
  · rintro (h | h | h)
    · exact .inr (.inl h)
    · exact .inl h
    · exact .inr (.inr h)
theorem ins_sorted : ∀ (xs : List Int) (x : Int), xs.Pairwise (· < ·) → ¬ x ∈ xs → (ins xs x).Pairwise (· < ·)
  | [], x, _, _ => by simp [ins, pre]
  | y :: ys, x, h, hx => by
    rw [ins_cons]
    rw [List.pairwise_cons] at h
    have hne : x ≠ y := fun e => hx (by rw [e]; simp)
    by_cases hy : y < x
    · rw [if_pos hy, List.pairwise_cons]
      refine ⟨?_, ins_sorted ys x h.2 (fun hm => hx (List.mem_cons_of_mem _ hm))⟩
      intro z hz
      rcases mem_ins.1 hz with rfl | hz
      · exact hy
      · exact h.1 z hz
    · rw [if_neg hy, List.pairwise_cons, List.pairwise_cons]
      refine ⟨?_, h⟩
      intro z hz
      rcases List.mem_cons.1 hz with rfl | hz
      · omega
      · have := h.1 z hz; omega
theorem ins_length (xs : List Int) (x : Int) : (ins xs x).length = xs.length + 1 := by
  have := pre_le xs x
  unfold ins
  rw [List.length_append, List.length_take, List.length_cons, List.length_drop]
  omega
/-- the first k numbers, in order, each once -/
def srt (f : Nat → Int) : Nat → List Int
  | 0 => []
  | k + 1 => if f k ∈ srt f k then srt f k else ins (srt f k) (f k)
theorem srt_length (f : Nat → Int) : ∀ k, (srt f k).length ≤ k
  | 0 => Nat.le_refl _
  | k + 1 => by
    have := srt_length f k
    unfold srt
    split
    · omega
    · rw [ins_length]; omega
theorem mem_srt {f : Nat → Int} {y : Int} : ∀ k, y ∈ srt f k ↔ ∃ j, j < k ∧ f j = y
  | 0 => by simp [srt]
  | k + 1 => by
    unfold srt
    constructor
    · intro h
      split at h
      · obtain ⟨j, hj, he⟩ := (mem_srt k).1 h
        exact ⟨j, by omega, he⟩
      · rcases mem_ins.1 h with h | h
        · exact ⟨k, by omega, h.symm⟩
        · obtain ⟨j, hj, he⟩ := (mem_srt k).1 h
          exact ⟨j, by omega, he⟩
    · rintro ⟨j, hj, he⟩
      rcases Nat.lt_or_ge j k with h | h
      · have hm := (mem_srt k).2 ⟨j, h, he⟩
        split
        · exact hm
        · exact mem_ins.2 (.inr hm)
      · have : j = k := by omega
        subst this
        subst he
        split
        · assumption
        · exact mem_ins.2 (.inl rfl)
theorem srt_sorted (f : Nat → Int) : ∀ k, (srt f k).Pairwise (· < ·)
  | 0 => List.Pairwise.nil
  | k + 1 => by
    unfold srt
    split
    · exact srt_sorted f k
    · exact ins_sorted _ _ (srt_sorted f k) (by assumption)
/-- there is one list of the same numbers in their order -/
theorem sorted_unique : ∀ (xs ys : List Int), xs.Pairwise (· < ·) → ys.Pairwise (· < ·) → (∀ z, z ∈ xs ↔ z ∈ ys) → xs = ys
  | [], [], _, _, _ => rfl
  | [], y :: ys, _, _, h => by have := (h y).2 (by simp); simp at this
  | x :: xs, [], _, _, h => by have := (h x).1 (by simp); simp at this
  | x :: xs, y :: ys, hx, hy, h => by
    rw [List.pairwise_cons] at hx hy
    have hxy : x = y := by
      rcases List.mem_cons.1 ((h x).1 (by simp)) with e | e
      · exact e
      · have h1 := hy.1 x e
        rcases List.mem_cons.1 ((h y).2 (by simp)) with e2 | e2
        · exact e2.symm
        · have h2 := hx.1 y e2; omega
    subst hxy
    congr 1
    refine sorted_unique xs ys hx.2 hy.2 fun z => ?_
    constructor
    · intro hz
      rcases List.mem_cons.1 ((h z).1 (List.mem_cons_of_mem _ hz)) with e | e
      · have := hx.1 z hz; omega
      · exact e
    · intro hz
      rcases List.mem_cons.1 ((h z).2 (List.mem_cons_of_mem _ hz)) with e | e
      · have := hy.1 z hz; omega
      · exact e
theorem in_list {xs : List Int} {x : Int} : (∃ j, j < xs.length ∧ xs.getD j 0 = x) ↔ x ∈ xs := by
  constructor
  · rintro ⟨j, hj, rfl⟩
    rw [List.getD_eq_getElem?_getD, List.getElem?_eq_getElem hj]
    exact List.getElem_mem hj
  · intro h
    obtain ⟨j, hj, he⟩ := List.mem_iff_getElem.1 h
    exact ⟨j, hj, by rw [List.getD_eq_getElem?_getD, List.getElem?_eq_getElem hj]; exact he⟩

theorem Built.notnil {w0 w : World} {v : Value} {xs : List Int} (h : Built w0 w v xs) (hx : xs ≠ []) : v ≠ .slice none 0 0 := by
  intro e
  subst e
  rcases h.1.2 with ⟨_, h2⟩ | ⟨g, cap, cur, h1, _⟩
  · exact hx (List.eq_nil_of_length_eq_zero h2)
  · injection h1 with h3; cases h3
theorem Rows'.cut {k : IntKind} {w : World} {b off n j : Nat} {f : Nat → Int} (h : Rows' k w (some ⟨b, off, none⟩) n f) : Rows' k w (some ⟨b, off + j, none⟩) (n - j) (fun t => f (j + t)) := by
  intro hp
  obtain ⟨b', off', e, hlt, hc⟩ := h (by omega)
  cases e
  exact ⟨b, off + j, rfl, hlt, fun t ht => by rw [Nat.add_assoc]; exact hc (j + t) (by omega)⟩
theorem drop_cells (xs : List Int) (j : Nat) : cellsOf .i64 (xs.length - j) (fun t => xs.getD (j + t) 0) = xs.drop j := by
  apply List.ext_getElem
  · rw [cellsOf_length, List.length_drop]
  · intro i h1 h2
    rw [cellsOf_length] at h1
    simp [cellsOf, List.getD_eq_getElem?_getD, show j + i < xs.length by omega]
theorem ins_built {wo w2 : World} {v2 : Value} {xs : List Int} {x : Int} {j L : Nat} (hj : j = pre xs x) (hL : L = xs.length)
    (h : w2.ownsRow wo.heap.size 3 1 v2 ((xs.take j ++ [x]).length + (L - j)) (((xs.take j ++ [x]) ++ cellsOf .i64 (L - j) (fun t => xs.getD (j + t) 0)).map (Value.int .i64))) (hb : Below wo.heap.size wo w2) : Built wo w2 v2 (ins xs x) := by
  subst hL
  have e : (xs.take j ++ [x]) ++ cellsOf .i64 (xs.length - j) (fun t => xs.getD (j + t) 0) = ins xs x := by
    rw [drop_cells, hj]
    unfold ins
    simp
  rw [e] at h
  have e2 : (xs.take j ++ [x]).length + (xs.length - j) = (ins xs x).length := by
    have := pre_le xs x
    rw [ins_length, List.length_append, List.length_take, hj]
    simp
    omega
  rw [e2] at h
  exact ⟨h, hb⟩
theorem take_getD (xs : List Int) (j : Nat) (h : j < xs.length) : xs.take (j + 1) = xs.take j ++ [xs.getD j 0] := by
  rw [List.take_add_one, List.getD_eq_getElem?_getD, List.getElem?_eq_getElem h]
  rfl
set_option maxHeartbeats 1600000 in
theorem sorted_any (a : Option Addr) (n c : Nat) (f : Nat → Int) (w : World) (hn : n ≤ 50000) (ha : Rows' .i64 w a n f) :
    Calls Tryd.prog 24 #[.slice a n c] w fun e w' => ∃ v, e = .returned v ∧ Built w w' v (srt f n) := by
  have HX := hidden ha
  clear ha
  go_enter Tryd.func24, Tryd.ntmps24
  go_wp2_with fail
  go_loopw [3, 4] (fun v i wr => ∃ k : Nat, k ≤ n ∧ i = .int .i64 (k : Int) ∧ Hid (Built w wr v (srt f k)) ∧ Hid (v ≠ .slice none 0 0)) (fun _ i _ => n - (intOf i).toNat)
  case atStart => exact ⟨0, by omega, rfl, Built.start w _ rfl, fun h => by cases h⟩
  case round =>
    obtain ⟨k, hk, rfl, hB, hNN⟩ := hrel
    by_cases hkn : k < n
    · obtain ⟨bb, off, rfl, hlt, hc⟩ := HX.out (by omega)
      have hcell : wr.cell? ⟨bb, off + k, none⟩ = some (.int .i64 (f k)) := (hB.out.below.cell (p := ⟨bb, off + k, none⟩) hlt).trans (hc k hkn)
      clear hc
      have hki : (k : Int) < (n : Int) := by omega
      have hlen := srt_length f k
      have hsucc : srt f (k + 1) = if f k ∈ srt f k then srt f k else ins (srt f k) (f k) := rfl
      obtain ⟨xs, hxs⟩ : ∃ xs, xs = srt f k := ⟨_, rfl⟩
      rw [← hxs] at hB hlen hsucc
      have HXS := hidden hxs
      clear hxs
      obtain ⟨a3, cap3, rfl, hR3, hn3, hc3⟩ := hB.out.shape
      have HR3 := hidden hR3
      have HN3 := hidden hn3
      clear hR3 hn3
      obtain ⟨L, hL⟩ : ∃ L, L = xs.length := ⟨_, rfl⟩
      rw [← hL] at hlen hc3 HR3 HN3
      rw [← hL]
      have HL := hidden hL
      clear hL
      obtain ⟨x, hx⟩ : ∃ x, x = f k := ⟨_, rfl⟩
      rw [← hx] at hcell hsucc
      clear hx
      go_wp2_with fail
      refine (hasInt_any a3 L cap3 (fun j => xs.getD j 0) x _ (by omega) HR3.out).mono ?_
      rintro e w1 ⟨rfl, hw1⟩
      rw [hw1]
      clear hw1 w1
      have hdec : decide (∃ j, j < L ∧ xs.getD j 0 = x) = decide (x ∈ xs) := by
        rw [HL.out]; exact decide_eq_decide.2 in_list
      by_cases hmem : x ∈ xs
      · rw [hdec, decide_eq_true hmem]
        rw [if_pos hmem] at hsucc
        have HS := hidden hsucc
        clear hsucc hdec hmem
        go_wp2_with fail
        go_roundw
        case rel => exact ⟨k + 1, by omega, by go_num, by rw [HS.out, HL.out]; exact hB, by rw [HL.out]; exact hNN⟩
        case measure => simp [intOf]; omega
      · rw [hdec, decide_eq_false hmem]
        rw [if_neg hmem] at hsucc
        have HS := hidden hsucc
        clear hsucc hdec hmem
        obtain ⟨wo, rfl⟩ : ∃ wo, wo = wr := ⟨_, rfl⟩
        have hpl := pre_le xs x
        rw [← HL.out] at hpl
        have HC0 := hidden hcell
        clear hcell
        go_wp2_with fail
        go_loopw [5, 6] (fun nv kk wi => ∃ j : Nat, j ≤ pre xs x ∧ kk = .int .i64 (j : Int) ∧ Hid (Built wo wi nv (xs.take j))) (fun _ kk _ => pre xs x - (intOf kk).toNat)
        case atStart => exact ⟨0, by omega, rfl, Built.start wo _ rfl⟩
        case round =>
          obtain ⟨j, hj, rfl, hBi⟩ := hrel
          have hcell : wr.cell? ⟨bb, off + k, none⟩ = some (.int .i64 x) := (hBi.out.below.cell (p := ⟨bb, off + k, none⟩) (Nat.lt_of_lt_of_le hlt hB.out.below.size)).trans HC0.out
          have hjl : (xs.take j).length = j := by rw [List.length_take, ← HL.out]; omega
          have HJL := hidden hjl
          clear hjl
          by_cases hjp : j < pre xs x
          · have hp := pre_lt xs x j hjp
            rw [← HL.out] at hp
            obtain ⟨b3, off3, rfl, hlt3, hc3'⟩ := HR3.out (by omega)
            have hcell3 : wr.cell? ⟨b3, off3 + j, none⟩ = some (.int .i64 (xs.getD j 0)) := (hBi.out.below.cell (p := ⟨b3, off3 + j, none⟩) hlt3).trans (hc3' j hp.1)
            clear hc3'
            have hp1 : (j : Int) < (L : Int) := by omega
            obtain ⟨y, hy⟩ : ∃ y, y = xs.getD j 0 := ⟨_, rfl⟩
            have hp2 : y < x := by rw [hy]; exact hp.2
            have htake : xs.take (j + 1) = xs.take j ++ [y] := by rw [hy]; exact take_getD xs j (by rw [← HL.out]; exact hp.1)
            rw [← hy] at hcell3
            have HTK := hidden htake
            clear htake hy hp
            go_wp2_with fail
            go_quiet (fail)
            obtain ⟨wq, hwq⟩ : ∃ wq, wq = wr.drewN nq := ⟨_, rfl⟩
            have hcq : wq.cell? ⟨b3, off3 + j, none⟩ = some (.int .i64 y) := by rw [hwq]; exact hcell3
            have HBq := hidden (hBi.out.drewN nq)
            rw [← hwq] at HBq
            rw [← hwq]
            clear hwq hcell3 hcell
            go_wp2_with (at_builtin; refine wpList_push rfl (.tmp 39) (.tmp 44) rfl wo _ _ _ _ rfl rfl HBq.out (by rw [HJL.out]; omega) ?_; intro v1 w1 hb1)
            have HB1 := hidden hb1
            clear hb1
            go_wp2_with fail
            go_roundw
            case rel => exact ⟨j + 1, by omega, by go_num, by rw [HTK.out]; exact HB1⟩
            case measure => simp [intOf]; omega
          · have hje : j = pre xs x := by omega
            have hst := pre_stop xs x
            rw [← hje, ← HL.out] at hst
            have HJE := hidden hje
            clear hje
            obtain ⟨a5, cap5, rfl, _, _, _⟩ := hBi.out.shape
            rw [HJL.out]
            rw [HJL.out] at hBi
            by_cases hjL : j < L
            · obtain ⟨b3, off3, rfl, hlt3, hc3'⟩ := HR3.out (by omega)
              have hcell3 : wr.cell? ⟨b3, off3 + j, none⟩ = some (.int .i64 (xs.getD j 0)) := (hBi.out.below.cell (p := ⟨b3, off3 + j, none⟩) hlt3).trans (hc3' j hjL)
              clear hc3'
              have hp1 : (j : Int) < (L : Int) := by omega
              obtain ⟨y, hy⟩ : ∃ y, y = xs.getD j 0 := ⟨_, rfl⟩
              have hp2 : ¬ y < x := by rw [hy]; exact fun h => hst ⟨hjL, h⟩
              rw [← hy] at hcell3
              clear hy hst
              go_wp2_with fail
              go_quiet (fail)
              obtain ⟨wq, hwq⟩ : ∃ wq, wq = wr.drewN nq := ⟨_, rfl⟩
              have hcq : wq.cell? ⟨bb, off + k, none⟩ = some (.int .i64 x) := by rw [hwq]; exact hcell
              have HBq : Hid (Built wo wq (.slice a5 j cap5) (xs.take j)) := by rw [hwq]; exact hBi.out.drewN nq
              rw [← hwq]
              clear hwq hcell3 hcell
              go_wp2_with (first
                | (at_builtin; refine wpList_push rfl (.tmp 48) (.tmp 53) rfl wo _ _ _ _ rfl rfl HBq.out (by rw [HJL.out]; omega) ?_; intro v1 w1 hb1)
                | (at_builtin; (refine wpList_whole rfl (.tmp 55) (.tmp 58) 22 22 3 .i64 Tryd.underlying22 Tryd.underlying22 infoI rfl wo _ _ (xs.take j ++ [x]).length (xs.take j ++ [x]) (some ⟨b3, off3 + j, none⟩) (L - j) _ (fun t => xs.getD (j + t) 0) rfl rfl hb1.1 hb1.2 (Rows'.cut (HR3.out.below hb1.below)) (fun h => by cases h) (by omega) (by rw [List.length_append, HJL.out]; simp; omega) (hb1.notnil (by simp)) ?_); intro v2 w2 hown2 hbel2 hv2))
              have HB2 := hidden ((ins_built HJE.out HL.out hown2 hbel2).widen hB.out.below)
              have HV2 := hidden hv2
              clear hown2 hbel2 hb1 hv2
              go_wp2_with fail
              go_roundw
              case rel => exact ⟨k + 1, by omega, by go_num, by rw [HS.out]; exact HB2, HV2⟩
              case measure => simp [intOf]; omega
            · have hjL' : j = L := by omega
              have hp1 : ¬ (j : Int) < (L : Int) := by omega
              have hd : decide ((j : Int) < (L : Int)) = false := decide_eq_false hp1
              have HJ := hidden hjL'
              clear hst hjL'
              rcases a3 with _ | ad3
              · obtain ⟨hL0, hcap0⟩ := HN3.out rfl
                exact absurd (show Value.slice none xs.length cap3 = .slice none 0 0 by rw [← HL.out, hL0, hcap0]) hNN.out
              · skip
                go_wp2_with fail
                go_quiet (fail)
                obtain ⟨wq, hwq⟩ : ∃ wq, wq = wr.drewN nq := ⟨_, rfl⟩
                have hcq : wq.cell? ⟨bb, off + k, none⟩ = some (.int .i64 x) := by rw [hwq]; exact hcell
                have HBq : Hid (Built wo wq (.slice a5 j cap5) (xs.take j)) := by rw [hwq]; exact hBi.out.drewN nq
                rw [← hwq]
                clear hwq hcell
                go_wp2_with (first
                  | (at_builtin; refine wpList_push rfl (.tmp 48) (.tmp 53) rfl wo _ _ _ _ rfl rfl HBq.out (by rw [HJL.out]; omega) ?_; intro v1 w1 hb1)
                  | (at_builtin; (refine wpList_whole rfl (.tmp 55) (.tmp 58) 22 22 3 .i64 Tryd.underlying22 Tryd.underlying22 infoI rfl wo _ _ (xs.take j ++ [x]).length (xs.take j ++ [x]) _ (L - j) _ (fun t => xs.getD (j + t) 0) rfl rfl hb1.1 hb1.2 (fun h => absurd h (by have := HJ.out; omega)) (fun h => by first | (cases h) | (split at h <;> cases h)) (by omega) (by rw [List.length_append, HJL.out]; simp; omega) (hb1.notnil (by simp)) ?_); intro v2 w2 hown2 hbel2 hv2))
                have HB2 := hidden ((ins_built HJE.out HL.out hown2 hbel2).widen hB.out.below)
                have HV2 := hidden hv2
                clear hown2 hbel2 hb1 hv2
                go_wp2_with fail
                go_roundw
                case rel => exact ⟨k + 1, by omega, by go_num, by rw [HS.out]; exact HB2, HV2⟩
                case measure => simp [intOf]; omega
    · have : k = n := by omega
      subst this
      go_wp2
      go_ret
      exact ⟨_, rfl, hB.out⟩

end Go.Proofs.YtkaaokaiealbmaaDoor
