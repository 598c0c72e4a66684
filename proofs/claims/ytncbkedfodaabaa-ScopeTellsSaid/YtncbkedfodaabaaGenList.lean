/- Slices of ints that a call builds by append, and lists: what is kept, put in order, alike. Of the program only its table of types. -/
import Derived.Test.YtncbkedfodaabaaRows
import Derived.Test.YtncbkedfodaabaaGenRow
import Derived.Laws.AppendOwnNone
import Derived.WalkKit
namespace Go.Proofs.Ytncbkedfodaabaa
open Go.RowKit
set_option linter.unusedVariables false

theorem infoI : (Try.prog.info? 3).map (fun i => (i.zero, i.size, i.bytes)) = some (some (.int .i64 0), 1, 8) := by kernel_rfl
/-- v is a slice of one's own with the numbers xs, made since w0, and nothing that was there has turned -/
def Built (w0 w : World) (v : Value) (xs : List Int) : Prop :=
  w.ownsRow w0.heap.size 3 1 v xs.length (xs.map (Value.int .i64)) ∧ Below w0.heap.size w0 w
theorem Built.below {w0 w : World} {v : Value} {xs : List Int} (h : Built w0 w v xs) : Below w0.heap.size w0 w := h.2
theorem Built.rows {w0 w : World} {v : Value} {xs : List Int} (h : Built w0 w v xs) : ∃ a cap, v = .slice a xs.length cap ∧ Rows' .i64 w a xs.length (fun j => xs.getD j 0) := Rows'.own h.1
theorem Built.drewN {w0 w : World} {v : Value} {xs : List Int} (h : Built w0 w v xs) (q : Nat) : Built w0 (w.drewN q) v xs := ⟨h.1, ⟨h.2.os, h.2.tape, h.2.output, h.2.size, h.2.block⟩⟩
theorem Built.start (w : World) (h : Array Value) (hh : h = #[]) : Built w (w.alloc (.cells h 3)) (.slice (some ⟨w.heap.size, 0, none⟩) 0 0) [] := by
  subst hh
  exact ⟨⟨rfl, .inr ⟨w.heap.size, 0, #[], rfl, Nat.le_refl _, by show (w.heap.push _)[_]? = _; simp, Nat.le_refl _, by unfold maxLen; omega, rfl, rfl⟩⟩, (Below.refl _ _).alloc (Nat.le_refl _) _⟩
theorem wpList_push {ops : Array Oper} {rest : List Oper} {o : Oper} {a : Act} {Q : Exit → Act → World → Prop} (hgd : o.guard = none) (s x : Operand)
    (ho : o.op = .call { callee := .builtin .append, args := #[s, x], argTypes := #[27, 27] })
    (w0 w : World) (v : Value) (xs : List Int) (z : Int) (hs : a.eval s = v) (hx : a.eval x = .slice (some ⟨w.heap.size, 0, none⟩) 1 1) (hb : Built w0 w v xs) (hlen : xs.length ≤ 10000000)
    (h : ∀ v' w', Built w0 w' v' (xs ++ [z]) → wpList Try.prog ops Q rest (a.put o.dst v') w') :
    wpList Try.prog ops Q (o :: rest) a (w.alloc (.cells #[.int .i64 z] 3)) := by
  obtain ⟨i0, hi, hz0, hz1, hz2⟩ := info_parts infoI
  refine wpList_append_own _ hgd s x 27 ho w0.heap.size 3 i0 (.int .i64 0) 1 8 Try.underlying27 hi hz0 hz1 hz2 rfl (by decide) v xs.length (xs.map (Value.int .i64)) hs (hb.1.alloc _) ⟨w.heap.size, 0, none⟩ 1 1 [.int .i64 z] hx rfl ?_ ?_ ?_ ?_ ?_ ?_
  · intro j u hj
    match j, hj with
    | 0, hj => simp at hj; subst hj; simp [Addr.add]
  · intro u hu; simp at hu; subst hu; rfl
  · unfold maxLen; omega
  · omega
  · have := hb.2.size; simp; omega
  · intro v' w' hown hgrow _
    refine h v' w' ⟨by rw [List.length_append, List.map_append]; exact hown, ?_⟩
    refine ((hb.2.alloc hb.2.size _)).grown hgrow (by have := hb.2.size; simp; omega) ?_
    intro k hk
    exact (hb.1.lt k hk).1
theorem wpList_room {ops : Array Oper} {rest : List Oper} {o : Oper} {a : Act} {Q : Exit → Act → World → Prop} (w : World) (hg : o.guard = none) (l c : Operand) (hop : o.op = Op.makeSlice 27 l c)
    (n : Nat) (hl : a.eval l = .int .i64 0) (hc : a.eval c = .int .i64 (n : Int)) (hn : n ≤ 10000000)
    (hK : ∀ w', Built w w' (.slice (some ⟨w.heap.size, 0, none⟩) 0 n) [] → wpList Try.prog ops Q rest (a.put o.dst (.slice (some ⟨w.heap.size, 0, none⟩) 0 n)) w') :
    wpList Try.prog ops Q (o :: rest) a w := by
  obtain ⟨i0, hi, hz0, hz1, hz2⟩ := info_parts infoI
  refine wpList_make_own w hg l c 27 hop w.heap.size 3 i0 (.int .i64 0) 1 Try.underlying27 hi hz0 hz1 .i64 .i64 n n hl hc rfl (by rw [hz2]; omega) (by unfold maxLen; omega) (Nat.le_refl _) ?_
  intro w' hown hgrow
  exact hK w' ⟨hown, (Below.refl _ _).grown hgrow (Nat.le_refl _) (fun k hk => by cases hk)⟩
theorem append_types {P : Program} (t t' e e' ty : TypeId) (i : TypeInfo) (ht : P.underlying t = some (.slice e)) (ht' : P.underlying t' = some (.slice e')) (hi : P.info? e = some i) (b : Option Addr) (l c : Nat) (x : Value) (w : World) :
    (Builtin.append_ #[t, t'] ty #[.slice b l c, x]).run P w = (Builtin.append_ #[t, t] ty #[.slice b l c, x]).run P w := by
  simp [Builtin.append_, run_underlying ht, run_underlying ht', sizeOf, typeInfo, hi]
theorem own_shape {w : World} {base n : Nat} {e : TypeId} {v : Value} {xs : List Value} (h : w.ownsRow base e 1 v n xs) : ∃ b l c, v = .slice b l c := by
  rcases h.2 with ⟨rfl, _⟩ | ⟨g, cap, cur, rfl, _⟩
  · exact ⟨_, _, _, rfl⟩
  · exact ⟨_, _, _, rfl⟩
/-- the cells that Rows' tells -/
def cellsOf (k : IntKind) (n : Nat) (f : Nat → Int) : List Int := (List.range n).map f
theorem cellsOf_length (k : IntKind) (n : Nat) (f : Nat → Int) : (cellsOf k n f).length = n := by simp [cellsOf]
theorem cellsOf_get {k : IntKind} {n j : Nat} {f : Nat → Int} (h : j < n) : (cellsOf k n f).getD j 0 = f j := by
  simp [cellsOf, List.getD_eq_getElem?_getD, h]
/-- what append(Set{}, x...) makes of a slice x of n numbers -/
theorem wpList_whole {ops : Array Oper} {rest : List Oper} {o : Oper} {a : Act} {Q : Exit → Act → World → Prop} (hgd : o.guard = none) (s x : Operand) (t t' e : TypeId) (k : IntKind)
    (ht : Try.prog.underlying t = some (.slice e)) (ht' : Try.prog.underlying t' = some (.slice e)) (hinfo : (Try.prog.info? e).map (fun i => (i.zero, i.size, i.bytes)) = some (some (.int k 0), 1, 8))
    (ho : o.op = .call { callee := .builtin .append, args := #[s, x], argTypes := #[t, t'] })
    (w0 w : World) (v : Value) (m : Nat) (xs : List Int) (ad : Option Addr) (n c : Nat) (f : Nat → Int) (hs : a.eval s = v) (hx : a.eval x = .slice ad n c)
    (hown : w.ownsRow w0.heap.size e 1 v m (xs.map (Value.int k))) (hbel : Below w0.heap.size w0 w) (hr : Rows' k w ad n f) (hc : ad = none → n = 0 ∧ c = 0) (hn : n ≤ 1000000) (hm : m ≤ 1000000) (hv : v ≠ .slice none 0 0)
    (h : ∀ v' w', w'.ownsRow w0.heap.size e 1 v' (m + n) ((xs ++ cellsOf k n f).map (Value.int k)) → Below w0.heap.size w0 w' → v' ≠ .slice none 0 0 → wpList Try.prog ops Q rest (a.put o.dst v') w') :
    wpList Try.prog ops Q (o :: rest) a w := by
  obtain ⟨i0, hi, hz0, hz1, hz2⟩ := info_parts hinfo
  have key : ∃ v' w', (Builtin.append_ #[t, t'] o.type #[v, .slice ad n c]).run Try.prog w = .ok v' w' ∧ w'.ownsRow w0.heap.size e 1 v' (m + n) ((xs ++ cellsOf k n f).map (Value.int k)) ∧ Below w0.heap.size w0 w' ∧ v' ≠ .slice none 0 0 := by
    have hshape : (Builtin.append_ #[t, t'] o.type #[v, .slice ad n c]).run Try.prog w = (Builtin.append_ #[t, t] o.type #[v, .slice ad n c]).run Try.prog w := by
      obtain ⟨b, l, c', rfl⟩ := own_shape hown
      exact append_types t t' e e o.type i0 ht ht' hi b l c' _ w
    rw [hshape]
    cases ad with
    | none =>
      obtain ⟨rfl, rfl⟩ := hc rfl
      refine ⟨v, w, run_append_owned_none (P := Try.prog) w w0.heap.size t o.type e i0 1 ht hi v m _ hown, ?_, hbel, hv⟩
      simpa [cellsOf] using hown
    | some ad =>
      have hcells : ∀ j u, ((cellsOf k n f).map (Value.int k))[j]? = some u → w.cell? (ad.add j) = some u := by
        intro j u hj
        rw [List.getElem?_map] at hj
        rcases Nat.lt_or_ge j n with hjn | hjn
        · obtain ⟨b, off, hab, hlt, hcell⟩ := hr (by omega)
          cases hab
          have hg := cellsOf_get (k := k) (f := f) hjn
          rw [List.getD_eq_getElem?_getD, List.getElem?_eq_getElem (by rw [cellsOf_length]; exact hjn)] at hg
          rw [List.getElem?_eq_getElem (by rw [cellsOf_length]; exact hjn)] at hj
          simp at hj hg
          subst hj
          rw [hg]
          have hcj := hcell j hjn
          simp only [Addr.add]
          split
          · rename_i h0; rw [h0, Nat.add_zero] at hcj; rw [h0]; exact hcj
          · exact hcj
        · rw [List.getElem?_eq_none (by rw [cellsOf_length]; exact hjn)] at hj
          cases hj
      obtain ⟨v', w', hr1, h2, h3, h4⟩ := run_append_own (P := Try.prog) w w0.heap.size t o.type e i0 (.int k 0) 1 8 ht hi hz0 hz1 hz2 rfl (by decide) v m _ hown ad n c ((cellsOf k n f).map (Value.int k))
        (by rw [List.length_map, cellsOf_length, Nat.mul_one]) hcells (ints_oneCell _ _) (by unfold maxLen; omega) (by omega) hbel.size
      refine ⟨v', w', hr1, by rw [List.map_append]; exact h2, ?_, fun e => hv (h4.1 e).1⟩
      exact hbel.grown h3 hbel.size (fun j hj => (hown.lt j hj).1)
  obtain ⟨v', w', hrun, h2, h3, h4⟩ := key
  refine wpList_plain hgd fun K hK => ?_
  unfold Oper.wp
  simp [execOp, ho, resolve, invoke, builtin, hs, hx, hrun, Result.andThen]
  exact hK _ _ (h v' w' h2 h3 h4)
theorem own_start (w : World) (t : TypeId) : (w.alloc (.cells #[] t)).ownsRow w.heap.size t 1 (.slice (some ⟨w.heap.size, 0, none⟩) 0 0) 0 [] :=
  ⟨rfl, .inr ⟨w.heap.size, 0, #[], rfl, Nat.le_refl _, by show (w.heap.push _)[_]? = _; simp, Nat.le_refl _, by unfold maxLen; omega, rfl, rfl⟩⟩
theorem below_start (w : World) (o : Obj) : Below w.heap.size w (w.alloc o) := (Below.refl _ _).alloc (Nat.le_refl _) _
theorem Built.rows' {w0 w : World} {v : Value} {xs : List Int} (h : Built w0 w v xs) : ∃ a cap, v = .slice a xs.length cap ∧ Rows' .i64 w a xs.length (fun j => xs.getD j 0) ∧ (a = none → xs.length = 0 ∧ cap = 0) := by
  obtain ⟨a, cap, rfl, hr⟩ := h.rows
  refine ⟨a, cap, rfl, hr, ?_⟩
  rintro rfl
  rcases h.1.2 with ⟨h1, h2⟩ | ⟨g, cap', cur, h1, _⟩
  · injection h1 with _ h3 h4; exact ⟨h3, h4⟩
  · injection h1 with h2; cases h2
theorem Built.widen {w w1 w2 : World} {v : Value} {xs : List Int} (h : Built w1 w2 v xs) (hb : Below w.heap.size w w1) : Built w w2 v xs := by
  refine ⟨⟨h.1.1, ?_⟩, hb.trans (h.2.mono hb.size)⟩
  rcases h.1.2 with h1 | ⟨g, cap, cur, h1, h2, r⟩
  · exact .inl h1
  · exact .inr ⟨g, cap, cur, h1, Nat.le_trans hb.size h2, r⟩
theorem Built.quiet {w0 w w' : World} {v : Value} {xs : List Int} (h : Built w0 w v xs) (hb : Below w.heap.size w w') : Built w0 w' v xs := by
  refine ⟨⟨h.1.1, ?_⟩, h.2.trans (hb.mono h.2.size)⟩
  rcases h.1.2 with h1 | ⟨g, cap, cur, h1, h2, h3, r⟩
  · exact .inl h1
  · refine .inr ⟨g, cap, cur, h1, h2, ?_, r⟩
    have hlt : g < w.heap.size := by
      obtain ⟨hlt, _⟩ := Array.getElem?_eq_some_iff.1 h3
      exact hlt
    rw [hb.block g hlt]; exact h3
/-- which of the numbers f 0 .. a test keeps, up to k -/
def keep (t : Int → Bool) (f : Nat → Int) : Nat → List Int
  | 0 => []
  | k + 1 => keep t f k ++ (if t (f k) then [f k] else [])
theorem keep_length (t : Int → Bool) (f : Nat → Int) : ∀ k, (keep t f k).length ≤ k
  | 0 => Nat.le_refl _
  | k + 1 => by
    have := keep_length t f k
    show (keep t f k ++ (if t (f k) then [f k] else [])).length ≤ k + 1
    rw [List.length_append]
    split <;> simp <;> omega
theorem mem_keep {t : Int → Bool} {f : Nat → Int} {x : Int} : ∀ k, x ∈ keep t f k ↔ (∃ j, j < k ∧ f j = x) ∧ t x = true
  | 0 => by simp [keep]
  | k + 1 => by
    show x ∈ keep t f k ++ (if t (f k) then [f k] else []) ↔ _
    rw [List.mem_append, mem_keep k]
    constructor
    · rintro (⟨⟨j, hj, he⟩, ht⟩ | h)
      · exact ⟨⟨j, by omega, he⟩, ht⟩
      · by_cases hk : t (f k) = true
        · simp [hk] at h; subst h; exact ⟨⟨k, by omega, rfl⟩, hk⟩
        · simp [hk] at h
    · rintro ⟨⟨j, hj, he⟩, ht⟩
      rcases Nat.lt_or_ge j k with h | h
      · exact .inl ⟨⟨j, h, he⟩, ht⟩
      · have : j = k := by omega
        subst this
        right
        rw [he, ht]; simp
/-- is x among the first n? -/
def isIn (n : Nat) (f : Nat → Int) (x : Int) : Bool := decide (∃ j, j < n ∧ f j = x)
theorem Built.shape {w0 w : World} {v : Value} {xs : List Int} (h : Built w0 w v xs) : ∃ a cap, v = .slice a xs.length cap ∧ Rows' .i64 w a xs.length (fun j => xs.getD j 0) ∧ (a = none → xs.length = 0 ∧ cap = 0) ∧ xs.length ≤ cap := by
  obtain ⟨a, cap, rfl, hr, hn⟩ := h.rows'
  refine ⟨a, cap, rfl, hr, hn, ?_⟩
  rcases h.1.2 with ⟨h1, h2⟩ | ⟨g, cap', cur, h1, _, _, h2, _⟩
  · omega
  · injection h1 with _ _ h4; omega
/-- how many of the first ones are below x -/
def pre : List Int → Int → Nat
  | [], _ => 0
  | y :: ys, x => if y < x then pre ys x + 1 else 0
theorem pre_le : ∀ xs x, pre xs x ≤ xs.length
  | [], _ => Nat.le_refl _
  | y :: ys, x => by have := pre_le ys x; unfold pre; split <;> simp <;> omega
theorem pre_lt : ∀ (xs : List Int) (x : Int) (j : Nat), j < pre xs x → j < xs.length ∧ xs.getD j 0 < x
  | [], _, j, h => by simp [pre] at h
  | y :: ys, x, j, h => by
    unfold pre at h
    by_cases hy : y < x
    · rw [if_pos hy] at h
      rcases j with _ | j
      · exact ⟨by simp, by simpa using hy⟩
      · have := pre_lt ys x j (by omega)
        exact ⟨by simp; omega, by simpa using this.2⟩
    · rw [if_neg hy] at h; omega
theorem pre_stop : ∀ (xs : List Int) (x : Int), ¬ (pre xs x < xs.length ∧ xs.getD (pre xs x) 0 < x)
  | [], _ => by simp [pre]
  | y :: ys, x => by
    unfold pre
    by_cases hy : y < x
    · rw [if_pos hy]
      have := pre_stop ys x
      simpa using this
    · rw [if_neg hy]
      simp; omega
/-- x put where it belongs -/
def ins (xs : List Int) (x : Int) : List Int := xs.take (pre xs x) ++ x :: xs.drop (pre xs x)
theorem ins_cons (y : Int) (ys : List Int) (x : Int) : ins (y :: ys) x = if y < x then y :: ins ys x else x :: y :: ys := by
  unfold ins
  by_cases hy : y < x
  · rw [if_pos hy, show pre (y :: ys) x = pre ys x + 1 by simp [pre, hy]]; rfl
  · rw [if_neg hy, show pre (y :: ys) x = 0 by simp [pre, hy]]; rfl
theorem mem_ins {xs : List Int} {x y : Int} : y ∈ ins xs x ↔ y = x ∨ y ∈ xs := by
  unfold ins
  rw [List.mem_append, List.mem_cons]
  have h : y ∈ xs ↔ y ∈ xs.take (pre xs x) ∨ y ∈ xs.drop (pre xs x) := by rw [← List.mem_append, List.take_append_drop]
  rw [h]
  constructor
  · rintro (h | h | h)
    · exact .inr (.inl h)
    · exact .inl h
    · exact .inr (.inr h)
  · rintro (h | h | h)
    · exact .inr (.inl h)
    · exact .inl h
    · exact .inr (.inr h)
theorem ins_sorted : ∀ (xs : List Int) (x : Int), xs.Pairwise (· < ·) → ¬ x ∈ xs → (ins xs x).Pairwise (· < ·)
  | [], x, _, _ => by simp [ins, pre]
  | y :: ys, x, h, hx => by
    rw [ins_cons]
    rw [List.pairwise_cons] at h
    have hne : x ≠ y := fun e => hx (by rw [e]; simp)
    by_cases hy : y < x
    · rw [if_pos hy, List.pairwise_cons]
      refine ⟨?_, ins_sorted ys x h.2 (fun hm => hx (List.mem_cons_of_mem _ hm))⟩
      intro z hz
      rcases mem_ins.1 hz with rfl | hz
      · exact hy
      · exact h.1 z hz
    · rw [if_neg hy, List.pairwise_cons, List.pairwise_cons]
      refine ⟨?_, h⟩
      intro z hz
      rcases List.mem_cons.1 hz with rfl | hz
      · omega
      · have := h.1 z hz; omega
theorem ins_length (xs : List Int) (x : Int) : (ins xs x).length = xs.length + 1 := by
  have := pre_le xs x
  unfold ins
  rw [List.length_append, List.length_take, List.length_cons, List.length_drop]
  omega
/-- the first k numbers, in order, each once -/
def srt (f : Nat → Int) : Nat → List Int
  | 0 => []
  | k + 1 => if f k ∈ srt f k then srt f k else ins (srt f k) (f k)
theorem srt_length (f : Nat → Int) : ∀ k, (srt f k).length ≤ k
  | 0 => Nat.le_refl _
  | k + 1 => by
    have := srt_length f k
    unfold srt
    split
    · omega
    · rw [ins_length]; omega
theorem mem_srt {f : Nat → Int} {y : Int} : ∀ k, y ∈ srt f k ↔ ∃ j, j < k ∧ f j = y
  | 0 => by simp [srt]
  | k + 1 => by
    unfold srt
    constructor
    · intro h
      split at h
      · obtain ⟨j, hj, he⟩ := (mem_srt k).1 h
        exact ⟨j, by omega, he⟩
      · rcases mem_ins.1 h with h | h
        · exact ⟨k, by omega, h.symm⟩
        · obtain ⟨j, hj, he⟩ := (mem_srt k).1 h
          exact ⟨j, by omega, he⟩
    · rintro ⟨j, hj, he⟩
      rcases Nat.lt_or_ge j k with h | h
      · have hm := (mem_srt k).2 ⟨j, h, he⟩
        split
        · exact hm
        · exact mem_ins.2 (.inr hm)
      · have : j = k := by omega
        subst this
        subst he
        split
        · assumption
        · exact mem_ins.2 (.inl rfl)
theorem srt_sorted (f : Nat → Int) : ∀ k, (srt f k).Pairwise (· < ·)
  | 0 => List.Pairwise.nil
  | k + 1 => by
    unfold srt
    split
    · exact srt_sorted f k
    · exact ins_sorted _ _ (srt_sorted f k) (by assumption)
/-- there is one list of the same numbers in their order -/
theorem sorted_unique : ∀ (xs ys : List Int), xs.Pairwise (· < ·) → ys.Pairwise (· < ·) → (∀ z, z ∈ xs ↔ z ∈ ys) → xs = ys
  | [], [], _, _, _ => rfl
  | [], y :: ys, _, _, h => by have := (h y).2 (by simp); simp at this
  | x :: xs, [], _, _, h => by have := (h x).1 (by simp); simp at this
  | x :: xs, y :: ys, hx, hy, h => by
    rw [List.pairwise_cons] at hx hy
    have hxy : x = y := by
      rcases List.mem_cons.1 ((h x).1 (by simp)) with e | e
      · exact e
      · have h1 := hy.1 x e
        rcases List.mem_cons.1 ((h y).2 (by simp)) with e2 | e2
        · exact e2.symm
        · have h2 := hx.1 y e2; omega
    subst hxy
    congr 1
    refine sorted_unique xs ys hx.2 hy.2 fun z => ?_
    constructor
    · intro hz
      rcases List.mem_cons.1 ((h z).1 (List.mem_cons_of_mem _ hz)) with e | e
      · have := hx.1 z hz; omega
      · exact e
    · intro hz
      rcases List.mem_cons.1 ((h z).2 (List.mem_cons_of_mem _ hz)) with e | e
      · have := hy.1 z hz; omega
      · exact e
theorem in_list {xs : List Int} {x : Int} : (∃ j, j < xs.length ∧ xs.getD j 0 = x) ↔ x ∈ xs := by
  constructor
  · rintro ⟨j, hj, rfl⟩
    rw [List.getD_eq_getElem?_getD, List.getElem?_eq_getElem hj]
    exact List.getElem_mem hj
  · intro h
    obtain ⟨j, hj, he⟩ := List.mem_iff_getElem.1 h
    exact ⟨j, hj, by rw [List.getD_eq_getElem?_getD, List.getElem?_eq_getElem hj]; exact he⟩
theorem Built.notnil {w0 w : World} {v : Value} {xs : List Int} (h : Built w0 w v xs) (hx : xs ≠ []) : v ≠ .slice none 0 0 := by
  intro e
  subst e
  rcases h.1.2 with ⟨_, h2⟩ | ⟨g, cap, cur, h1, _⟩
  · exact hx (List.eq_nil_of_length_eq_zero h2)
  · injection h1 with h3; cases h3
theorem Rows'.cut {k : IntKind} {w : World} {b off n j : Nat} {f : Nat → Int} (h : Rows' k w (some ⟨b, off, none⟩) n f) : Rows' k w (some ⟨b, off + j, none⟩) (n - j) (fun t => f (j + t)) := by
  intro hp
  obtain ⟨b', off', e, hlt, hc⟩ := h (by omega)
  cases e
  exact ⟨b, off + j, rfl, hlt, fun t ht => by rw [Nat.add_assoc]; exact hc (j + t) (by omega)⟩
theorem drop_cells (xs : List Int) (j : Nat) : cellsOf .i64 (xs.length - j) (fun t => xs.getD (j + t) 0) = xs.drop j := by
  apply List.ext_getElem
  · rw [cellsOf_length, List.length_drop]
  · intro i h1 h2
    rw [cellsOf_length] at h1
    simp [cellsOf, List.getD_eq_getElem?_getD, show j + i < xs.length by omega]
theorem ins_built {wo w2 : World} {v2 : Value} {xs : List Int} {x : Int} {j L : Nat} (hj : j = pre xs x) (hL : L = xs.length)
    (h : w2.ownsRow wo.heap.size 3 1 v2 ((xs.take j ++ [x]).length + (L - j)) (((xs.take j ++ [x]) ++ cellsOf .i64 (L - j) (fun t => xs.getD (j + t) 0)).map (Value.int .i64))) (hb : Below wo.heap.size wo w2) : Built wo w2 v2 (ins xs x) := by
  subst hL
  have e : (xs.take j ++ [x]) ++ cellsOf .i64 (xs.length - j) (fun t => xs.getD (j + t) 0) = ins xs x := by
    rw [drop_cells, hj]
    unfold ins
    simp
  rw [e] at h
  have e2 : (xs.take j ++ [x]).length + (xs.length - j) = (ins xs x).length := by
    have := pre_le xs x
    rw [ins_length, List.length_append, List.length_take, hj]
    simp
    omega
  rw [e2] at h
  exact ⟨h, hb⟩
theorem take_getD (xs : List Int) (j : Nat) (h : j < xs.length) : xs.take (j + 1) = xs.take j ++ [xs.getD j 0] := by
  rw [List.take_add_one, List.getD_eq_getElem?_getD, List.getElem?_eq_getElem h]
  rfl
/-- is z among the numbers of a list? -/
theorem isIn_list (xs : List Int) (z : Int) : isIn xs.length (fun j => xs.getD j 0) z = decide (z ∈ xs) := by
  unfold isIn
  exact decide_eq_decide.2 in_list
theorem bool_iff {p : Prop} [Decidable p] {b : Bool} (h : p ↔ b = true) : decide p = b := by
  by_cases hp : p
  · rw [decide_eq_true hp, h.1 hp]
  · rw [decide_eq_false hp]
    cases b
    · rfl
    · exact absurd (h.2 rfl) hp
theorem list_eqB (xs ys : List Int) : (decide (xs.length = ys.length) && allEq xs.length (fun j => xs.getD j 0) (fun j => ys.getD j 0)) = decide (xs = ys) := by
  by_cases h : xs = ys
  · subst h
    rw [allEq_true (fun j _ => rfl)]
    simp
  · rw [decide_eq_false h]
    by_cases hl : xs.length = ys.length
    · have : ∃ k, k < xs.length ∧ xs.getD k 0 ≠ ys.getD k 0 := by
        apply Classical.byContradiction
        intro hn
        apply h
        apply List.ext_getElem hl
        intro i h1 h2
        apply Classical.byContradiction
        intro he
        apply hn
        refine ⟨i, h1, ?_⟩
        rw [List.getD_eq_getElem?_getD, List.getD_eq_getElem?_getD, List.getElem?_eq_getElem h1, List.getElem?_eq_getElem h2]
        exact he
      obtain ⟨k, hk, he⟩ := this
      rw [allEq_false hk he]
      simp
    · simp [hl]
/-- v is a list of one's own whose block is B or later -/
def Now (B : Nat) (w : World) (v : Value) (xs : List Int) : Prop := w.ownsRow B 3 1 v xs.length (xs.map (Value.int .i64))
theorem Now.shape {B : Nat} {w : World} {v : Value} {xs : List Int} (h : Now B w v xs) : ∃ a cap, v = .slice a xs.length cap ∧ Rows' .i64 w a xs.length (fun j => xs.getD j 0) ∧ (a = none → xs.length = 0 ∧ cap = 0) := by
  obtain ⟨a, cap, rfl, hr⟩ := Rows'.own h
  refine ⟨a, cap, rfl, hr, ?_⟩
  rintro rfl
  rcases h.2 with ⟨h1, h2⟩ | ⟨g, cap', cur, h1, _⟩
  · injection h1 with _ h3 h4; exact ⟨h3, h4⟩
  · injection h1 with h2; cases h2
theorem Now.of_built {B : Nat} {w0 w : World} {v : Value} {xs : List Int} (h : Built w0 w v xs) (hB : B ≤ w0.heap.size) : Now B w v xs := by
  refine ⟨h.1.1, ?_⟩
  rcases h.1.2 with h1 | ⟨g, cap, cur, h1, h2, r⟩
  · exact .inl h1
  · exact .inr ⟨g, cap, cur, h1, Nat.le_trans hB h2, r⟩
theorem Now.block {B : Nat} {w w' : World} {v : Value} {xs : List Int} (h : Now B w v xs) (hb : ∀ k, B ≤ k → k < w.heap.size → w'.heap[k]? = w.heap[k]?) : Now B w' v xs := by
  refine ⟨h.1, ?_⟩
  rcases h.2 with h1 | ⟨g, cap, cur, h1, h2, h3, r⟩
  · exact .inl h1
  · refine .inr ⟨g, cap, cur, h1, h2, ?_, r⟩
    have hlt : g < w.heap.size := by
      obtain ⟨hlt, _⟩ := Array.getElem?_eq_some_iff.1 h3
      exact hlt
    rw [hb g h2 hlt]; exact h3
theorem Now.but {B g : Nat} {w w' : World} {v : Value} {xs : List Int} (h : Now B w v xs) (hb : But g w w') (hg : g < B) : Now B w' v xs := h.block fun k hk _ => hb.block k (by omega)
theorem Now.below {B : Nat} {w w' : World} {v : Value} {xs : List Int} (h : Now B w v xs) (hb : Below w.heap.size w w') : Now B w' v xs := h.block fun k _ hk => hb.block k hk
theorem keep_filter (t : Int → Bool) (xs : List Int) : keep t (fun j => xs.getD j 0) xs.length = xs.filter t := by
  have key : ∀ k, k ≤ xs.length → keep t (fun j => xs.getD j 0) k = (xs.take k).filter t := by
    intro k
    induction k with
    | zero => intro _; simp [keep]
    | succ k ih =>
      intro hk
      show keep t (fun j => xs.getD j 0) k ++ (if t (xs.getD k 0) then [xs.getD k 0] else []) = _
      rw [ih (by omega), take_getD xs k (by omega), List.filter_append]
      congr 1
      by_cases h : t (xs.getD k 0) = true
      · simp only [h, if_true, List.filter_cons, List.filter_nil]
      · simp only [h, List.filter_cons, List.filter_nil]
  rw [key xs.length (Nat.le_refl _), List.take_length]
theorem isIn_one (x z : Int) : isIn 1 (fun j => ([x] : List Int).getD j 0) z = decide (z = x) := by
  have h := isIn_list [x] z
  rw [List.length_singleton] at h
  rw [h]
  exact decide_eq_decide.2 (by simp)
theorem one_rows (w : World) (t : TypeId) (x : Int) : Rows' .i64 (w.alloc (.cells #[.int .i64 x] t)) (some ⟨w.heap.size, 0, none⟩) 1 (fun j => ([x] : List Int).getD j 0) := by
  intro _
  refine ⟨w.heap.size, 0, rfl, by simp, fun j hj => ?_⟩
  rw [World.cell?_alloc_at _ _ _ _ rfl]
  rcases j with _ | j
  · simp
  · omega
theorem cells_all (X : List Int) : cellsOf .i64 X.length (fun j => X.getD j 0) = X := by
  have h := drop_cells X 0
  simpa using h
/-- append of one, while other blocks are written between -/
theorem wpList_push_now {ops : Array Oper} {rest : List Oper} {o : Oper} {a : Act} {Q : Exit → Act → World → Prop} (hgd : o.guard = none) (s x : Operand)
    (ho : o.op = .call { callee := .builtin .append, args := #[s, x], argTypes := #[27, 27] })
    (B : Nat) (w : World) (v : Value) (xs : List Int) (z : Int) (hs : a.eval s = v) (hx : a.eval x = .slice (some ⟨w.heap.size, 0, none⟩) 1 1) (hb : Now B w v xs) (hB : B ≤ w.heap.size) (hlen : xs.length ≤ 10000000)
    (h : ∀ v' w', Now B w' v' (xs ++ [z]) → Below B w w' → wpList Try.prog ops Q rest (a.put o.dst v') w') :
    wpList Try.prog ops Q (o :: rest) a (w.alloc (.cells #[.int .i64 z] 3)) := by
  obtain ⟨i0, hi, hz0, hz1, hz2⟩ := info_parts infoI
  refine wpList_append_own _ hgd s x 27 ho B 3 i0 (.int .i64 0) 1 8 Try.underlying27 hi hz0 hz1 hz2 rfl (by decide) v xs.length (xs.map (Value.int .i64)) hs (World.ownsRow.alloc hb _) ⟨w.heap.size, 0, none⟩ 1 1 [.int .i64 z] hx rfl ?_ ?_ ?_ ?_ ?_ ?_
  · intro j u hj
    match j, hj with
    | 0, hj => simp at hj; subst hj; simp [Addr.add]
  · intro u hu; simp at hu; subst hu; rfl
  · unfold maxLen; omega
  · omega
  · simp; omega
  · intro v' w' hown hgrow _
    refine h v' w' (by unfold Now; rw [List.length_append, List.map_append]; exact hown) ?_
    refine ((Below.refl B w).alloc hB _).grown hgrow (by simp; omega) ?_
    intro k hk
    exact (World.ownsRow.lt hb k hk).1
theorem Now.nil (B : Nat) (w : World) : Now B w (.slice none 0 0) [] := World.ownsRow_nil w B 3 1
theorem Now.drewN {B : Nat} {w : World} {v : Value} {xs : List Int} (h : Now B w v xs) (q : Nat) : Now B (w.drewN q) v xs := h
/-- how long a slice is -/
def sliceLen : Value → Nat
  | .slice _ n _ => n
  | _ => 0
theorem Built.some {w0 w : World} {v : Value} {xs : List Int} (h : Built w0 w v xs) (hx : xs ≠ []) : ∃ g cap, v = .slice (some ⟨g, 0, none⟩) xs.length cap ∧ xs.length ≤ cap ∧ Rows' .i64 w (some ⟨g, 0, none⟩) xs.length (fun j => xs.getD j 0) := by
  obtain ⟨a, cap, e, hr, hn, hc⟩ := h.shape
  rcases h.1.2 with ⟨h1, h2⟩ | ⟨g, cap', cur, h1, _⟩
  · exact absurd h1 (h.notnil hx)
  · rw [e] at h1
    injection h1 with h3 h4 h5
    subst h3
    exact ⟨g, cap, e, hc, hr⟩
theorem take_get (xs : List Int) (k t : Nat) (h : t < k) : (xs.take k).getD t 0 = xs.getD t 0 := by
  rw [List.getD_eq_getElem?_getD, List.getD_eq_getElem?_getD, List.getElem?_take, if_pos h]
theorem drop_get (xs : List Int) (k t : Nat) : (xs.drop k).getD t 0 = xs.getD (k + t) 0 := by
  rw [List.getD_eq_getElem?_getD, List.getD_eq_getElem?_getD, List.getElem?_drop]
theorem Rows'.first {w : World} {a : Option Addr} {L K : Nat} {xs : List Int} (h : Rows' .i64 w a L (fun j => xs.getD j 0)) (hK : K ≤ L) : Rows' .i64 w a K (fun j => (xs.take K).getD j 0) := by
  intro hp
  obtain ⟨b, off, e, hlt, hc⟩ := h (by omega)
  exact ⟨b, off, e, hlt, fun t ht => (hc t (by omega)).trans (congrArg (fun z => some (Value.int .i64 z)) (take_get xs K t ht).symm)⟩
theorem Rows'.rest {w : World} {b off L K : Nat} {xs : List Int} (h : Rows' .i64 w (some ⟨b, off, none⟩) L (fun j => xs.getD j 0)) : Rows' .i64 w (some ⟨b, off + K, none⟩) (L - K) (fun j => (xs.drop K).getD j 0) :=
  h.cut.congr fun t _ => (drop_get xs K t).symm

end Go.Proofs.Ytncbkedfodaabaa
