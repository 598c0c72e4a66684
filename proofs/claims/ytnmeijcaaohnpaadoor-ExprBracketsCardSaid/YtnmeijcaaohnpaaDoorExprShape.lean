/- What is read of tokens: a tree that is Right, whose nodes stand at tokens. No program. -/
import Derived.Test.YtnmeijcaaohnpaaDoorExprRules
import Derived.Test.YtnmeijcaaohnpaaDoorTreeNd
namespace Go.Proofs.YtnmeijcaaohnpaaDoor
set_option linter.unusedVariables false

theorem snd_left {A C : List Nd} {i : Nat} (h : i < A.length) : nd (A ++ C) i = nd A i := by
  unfold nd; rw [List.getD_eq_getElem?_getD, List.getD_eq_getElem?_getD, List.getElem?_append_left h]
theorem snd_last {A : List Nd} {x : Nd} : nd (A ++ [x]) A.length = x := by
  unfold nd; rw [List.getD_eq_getElem?_getD, List.getElem?_append_right (Nat.le_refl _), Nat.sub_self]; rfl
/-- all kids -/
def kidsOf (l : List Nd) : List Int := l.flatMap (fun x => x.kids)
theorem kidsOf_snoc (l : List Nd) (x : Nd) : kidsOf (l ++ [x]) = kidsOf l ++ x.kids := by unfold kidsOf; rw [List.flatMap_append]; simp
theorem allK_all (l : List Nd) : allK l l.length = kidsOf l := by unfold allK kidsOf; rw [List.take_length]
/-- the places of n nodes -/
def rng (n : Nat) : List Int := (List.range n).map Int.ofNat
theorem rng_succ (n : Nat) : rng (n + 1) = rng n ++ [(n : Int)] := by unfold rng; rw [List.range_succ, List.map_append]; rfl
theorem mem_rng {n : Nat} {z : Int} : z ∈ rng n ↔ 0 ≤ z ∧ z < (n : Int) := by
  unfold rng
  rw [List.mem_map]
  constructor
  · rintro ⟨i, hi, rfl⟩
    have := List.mem_range.1 hi
    exact ⟨Int.natCast_nonneg i, by show (i : Int) < _; omega⟩
  · rintro ⟨h1, h2⟩
    exact ⟨z.toNat, List.mem_range.2 (by omega), by show ((z.toNat : Nat) : Int) = z; omega⟩
theorem Ahead.snoc {l : List Nd} {x : Nd} (h : Ahead l) (hx : ∀ k ∈ x.kids, 0 ≤ k ∧ k < (l.length : Int)) : Ahead (l ++ [x]) := by
  intro i hi k hk
  rw [List.length_append] at hi
  have hi' : i < l.length + 1 := hi
  rcases Nat.lt_or_ge i l.length with g | g
  · rw [snd_left g] at hk; exact h i g k hk
  · have e : i = l.length := by omega
    subst e
    rw [snd_last] at hk
    exact hx k hk
theorem hgt_left {l : List Nd} {x : Nd} (h : Ahead l) (h' : Ahead (l ++ [x])) : ∀ n i, i < n → i < l.length → hgt (l ++ [x]) i = hgt l i := by
  intro n
  induction n with
  | zero => intro i h; omega
  | succ n ih =>
    intro i hn hi
    rw [hgt_eq h' (by rw [List.length_append]; omega), hgt_eq h hi, snd_left hi]
    congr 1
    apply List.map_congr_left
    intro k hk
    have := h i hi k hk
    exact ih k.toNat (by omega) (by omega)
theorem high_fold {h : List Nat} {l : List Nd} (hh : ∀ i, i < l.length → h.getD i 0 = hgt l i) (hn : h.length = l.length) : ∀ (ks : List Int) (a : Nat), (∀ k ∈ ks, 0 ≤ k ∧ k < (l.length : Int)) → ks.foldl (hstep h) a = (ks.map (fun k => hgt l k.toNat)).foldl (fun h x => max h (1 + x)) a
  | [], a, _ => rfl
  | k :: ks, a, hk => by
    have h1 := hk k (List.mem_cons_self ..)
    have e : hstep h a k = max a (1 + hgt l k.toNat) := by
      unfold hstep
      rw [if_pos ⟨h1.1, by rw [hn]; exact h1.2⟩, hh k.toNat (by omega), Nat.add_comm]
    show ks.foldl (hstep h) (hstep h a k) = _
    rw [e]
    exact high_fold hh hn ks _ (fun k hk' => hk k (List.mem_cons_of_mem _ hk'))
/-- tokens as lex tells them -/
structure IsTk (L : List Tk) : Prop where
  fin : ∀ j t, L[j]? = some t → t.kind ≠ 0 → j + 1 < L.length
  name : ∀ t ∈ L, t.kind = 1 → nameB t.text = true
  num : ∀ t ∈ L, t.n ≤ 9223372036854775807
/-- what holds of a reader whose last trees have the roots ps -/
structure ShInv (L : List Tk) (s : PS) (ps : List Int) : Prop where
  suf : ∃ j, j < L.length ∧ s.r = L.drop j
  fo : (kidsOf s.l ++ ps).Perm (rng s.l.length)
  ahead : Ahead s.l
  hn : s.h.length = s.l.length
  hh : ∀ i, i < s.l.length → s.h.getD i 0 = hgt s.l i
  low : ∀ i, i < s.l.length → hgt s.l i ≤ 200
  fit : ∀ i, i < s.l.length → fitB s.l (nd s.l i) = true ∧ isEx (nd s.l i).kind = true
  stand : ∀ x ∈ s.l, ∃ t ∈ L, x.at_ = (t.place : Int)
  few : ∀ x ∈ s.l, x.kids.length ≤ 8
  nums : ∀ x ∈ s.l, 0 ≤ x.n ∧ x.n ≤ 9223372036854775807
variable {L : List Tk} {s s1 : PS} {ps : List Int}
theorem ShInv.tok (h : ShInv L s ps) : ∃ j, L[j]? = some s.tok ∧ s.r = L.drop j ∧ s.tok ∈ L := by
  obtain ⟨j, hj, hr⟩ := h.suf
  have e : L.drop j = L[j] :: L.drop (j + 1) := List.drop_eq_getElem_cons hj
  have et : s.tok = L[j] := by unfold PS.tok; rw [hr, e]; rfl
  exact ⟨j, by rw [et]; exact List.getElem?_eq_getElem hj, hr, by rw [et]; exact List.getElem_mem _⟩
theorem ShInv.next (hL : IsTk L) (h : ShInv L s ps) (hk : s.tok.kind ≠ 0) : ShInv L s.next ps := by
  obtain ⟨j, hj, hr, _⟩ := h.tok
  have := hL.fin j _ hj hk
  refine ⟨⟨j + 1, this, ?_⟩, h.fo, h.ahead, h.hn, h.hh, h.low, h.fit, h.stand, h.few, h.nums⟩
  show s.r.tail = _
  rw [hr, List.tail_drop]
theorem sees_kind' {t : Tk} {b : List UInt8} (h : sees t b = true) : t.kind ≠ 0 := by
  unfold sees at h
  simp at h
  omega
theorem ShInv.next_is (hL : IsTk L) (h : ShInv L s ps) {b : List UInt8} (hb : s.is b = true) : ShInv L s.next ps := h.next hL (sees_kind' hb)
theorem ShInv.mem (h : ShInv L s ps) {k : Int} (hk : k ∈ ps) : 0 ≤ k ∧ k < (s.l.length : Int) := mem_rng.1 (h.fo.subset (List.mem_append_right _ hk))
/-- a node that may be laid over such roots -/
structure NodeOk (L : List Tk) (x : Nd) (m : Nat) : Prop where
  own : ownB x = true
  ex : isEx x.kind = true
  kids : ∀ ks : List Int, ks.length = m → (∀ k ∈ ks, isEx k = true) → kidsB x.kind ks = true
  stand : ∃ t ∈ L, x.at_ = (t.place : Int)
  few : m ≤ 8
  nums : 0 ≤ x.n ∧ x.n ≤ 9223372036854775807
/-- what is read, or what is wrong -/
def ShTold (L : List Tk) (ps : List Int) (v : Out) : Prop := match v with
  | .ok (l, s') => ShInv L s' (ps ++ l)
  | .error f => ∃ t ∈ L, f.2 = t.place
theorem ShInv.lay {x : Nd} {qs : List Int} (h : ShInv L s (ps ++ qs)) (hx : x.kids = qs) (ho : NodeOk L x qs.length) : ShTold L ps (lay x s) := by
  have hq : ∀ k ∈ x.kids, 0 ≤ k ∧ k < (s.l.length : Int) := fun k hk => h.mem (List.mem_append_right _ (by rw [← hx]; exact hk))
  unfold Go.Proofs.YtnmeijcaaohnpaaDoor.lay
  split
  · obtain ⟨t, ht, e⟩ := ho.stand
    refine ⟨t, ht, ?_⟩
    show x.at_.toNat = _
    rw [e]
    rfl
  · rename_i hh
    have hA := h.ahead.snoc hq
    have hnew : hgt (s.l ++ [x]) s.l.length = high s.h x.kids := by
      rw [hgt_eq hA (by simp), snd_last]
      unfold high
      rw [high_fold h.hh h.hn x.kids 1 hq]
      congr 1
      apply List.map_congr_left
      intro k hk
      have := hq k hk
      exact hgt_left h.ahead hA (k.toNat + 1) k.toNat (by omega) (by omega)
    have hold : ∀ i, i < s.l.length → hgt (s.l ++ [x]) i = hgt s.l i := fun i hi => hgt_left h.ahead hA (i + 1) i (by omega) hi
    have hlen : ∀ i, i < (s.l ++ [x]).length → i < s.l.length ∨ i = s.l.length := fun i hi => by rw [List.length_append] at hi; have : i < s.l.length + 1 := hi; omega
    have hkk : ∀ y : Nd, (∀ k ∈ y.kids, 0 ≤ k ∧ k < (s.l.length : Int)) → kk (s.l ++ [x]) y = kk s.l y := by
      intro y hy
      unfold kk
      apply List.map_congr_left
      intro k hk
      have := hy k hk
      rw [snd_left (by omega)]
    refine ⟨h.suf, ?_, hA, ?_, ?_, ?_, ?_, ?_, ?_, ?_⟩
    · show (kidsOf (s.l ++ [x]) ++ (ps ++ [(s.l.length : Int)])).Perm (rng (s.l ++ [x]).length)
      rw [kidsOf_snoc, List.length_append, show [x].length = 1 from rfl, rng_succ, hx]
      have h1 := h.fo
      have h2 : (kidsOf s.l ++ qs ++ (ps ++ [(s.l.length : Int)])).Perm (kidsOf s.l ++ (ps ++ qs) ++ [(s.l.length : Int)]) := by
        rw [List.append_assoc, List.append_assoc, ← List.append_assoc qs ps]
        exact List.Perm.append_left _ (List.Perm.append_right _ List.perm_append_comm)
      exact h2.trans (List.Perm.append_right _ h1)
    · show (s.h ++ [_]).length = (s.l ++ [x]).length
      rw [List.length_append, List.length_append, h.hn]
      rfl
    · intro i hi
      show (s.h ++ [high s.h x.kids]).getD i 0 = _
      rcases hlen i hi with g | g
      · rw [hold i g, ← h.hh i g, List.getD_eq_getElem?_getD, List.getElem?_append_left (by rw [h.hn]; exact g), ← List.getD_eq_getElem?_getD]
      · subst g
        show _ = hgt (s.l ++ [x]) s.l.length
        rw [hnew, List.getD_eq_getElem?_getD, List.getElem?_append_right (by rw [h.hn]; exact Nat.le_refl _), h.hn, Nat.sub_self]
        rfl
    · intro i hi
      show hgt (s.l ++ [x]) i ≤ 200
      rcases hlen i hi with g | g
      · rw [hold i g]; exact h.low i g
      · subst g; rw [hnew]; omega
    · intro i hi
      show fitB (s.l ++ [x]) (nd (s.l ++ [x]) i) = true ∧ isEx (nd (s.l ++ [x]) i).kind = true
      rcases hlen i hi with g | g
      · rw [snd_left g]
        refine ⟨?_, (h.fit i g).2⟩
        have h1 := (h.fit i g).1
        unfold fitB at h1 ⊢
        rw [hkk _ (fun k hk => by have := h.ahead i g k hk; omega)]
        exact h1
      · subst g
        rw [snd_last]
        refine ⟨?_, ho.ex⟩
        unfold fitB
        rw [ho.own, hkk x hq, Bool.true_and]
        refine ho.kids _ (by unfold kk; rw [List.length_map, hx]) (fun k hk => ?_)
        unfold kk at hk
        obtain ⟨j, hj, rfl⟩ := List.mem_map.1 hk
        have := hq j hj
        exact (h.fit j.toNat (by omega)).2
    · intro y hy
      rcases List.mem_append.1 hy with hy | hy
      · exact h.stand y hy
      · rw [List.mem_singleton.1 hy]; exact ho.stand
    · intro y hy
      rcases List.mem_append.1 hy with hy | hy
      · exact h.few y hy
      · rw [List.mem_singleton.1 hy, hx]; exact ho.few
    · intro y hy
      rcases List.mem_append.1 hy with hy | hy
      · exact h.nums y hy
      · rw [List.mem_singleton.1 hy]; exact ho.nums
/-- what is read has these roots more -/
structure Got (L : List Tk) (m : Md) (ps : List Int) (l : List Int) (s' : PS) : Prop where
  inv : ShInv L s' (ps ++ l)
  few : l.length ≤ 8
  one : (∀ acc, m ≠ .args acc) → ∃ p, l = [p]
def ShPre (L : List Tk) (m : Md) (ps : List Int) (s : PS) : Prop := match m with
  | .chain lv => lv ≤ 5 ∧ ShInv L s ps
  | .loop lv p => lv < 5 ∧ ShInv L s (ps ++ [p])
  | .more p => ShInv L s (ps ++ [p])
  | .call nm a => ShInv L s ps ∧ nameB nm.data.toList = true ∧ ∃ t ∈ L, a = t.place
  | .args acc => ShInv L s (ps ++ acc) ∧ acc.length ≤ 8
  | _ => ShInv L s ps
def ShPost (L : List Tk) (m : Md) (ps : List Int) (v : Out) : Prop := match v with
  | .error f => ∃ t ∈ L, f.2 = t.place
  | .ok (l, s') => Got L m ps l s'
theorem ShTold.post {m : Md} {x : Nd} (h : ShTold L ps (Go.Proofs.YtnmeijcaaohnpaaDoor.lay x s)) : ShPost L m ps (Go.Proofs.YtnmeijcaaohnpaaDoor.lay x s) := by
  unfold Go.Proofs.YtnmeijcaaohnpaaDoor.lay at h ⊢
  split
  · rename_i g; rw [if_pos g] at h; exact h
  · rename_i g; rw [if_neg g] at h
    exact ⟨h, by show 1 ≤ 8; omega, fun _ => ⟨_, rfl⟩⟩
theorem ex_cons {a : Int} {ks : List Int} : (∀ k ∈ a :: ks, isEx k = true) ↔ isEx a = true ∧ ∀ k ∈ ks, isEx k = true := List.forall_mem_cons
theorem kids2 {K : Int} (hK : K = 5 ∨ K = 8) {ks : List Int} (hl : ks.length = 2) (h : ∀ k ∈ ks, isEx k = true) : kidsB K ks = true := by
  unfold kidsB
  rw [if_pos (by omega), hl]
  unfold exprs
  rw [hl, show ks.take 2 = ks from List.take_of_length_le (by omega), List.all_eq_true.2 h]
  rfl
theorem kids1 {K : Int} (hK : K = 6 ∨ K = 7 ∨ K = 9 ∨ K = 10) {ks : List Int} (hl : ks.length = 1) (h : ∀ k ∈ ks, isEx k = true) : kidsB K ks = true := by
  unfold kidsB
  rw [if_neg (by omega), if_pos (by omega), hl]
  unfold exprs
  rw [hl, show ks.take 1 = ks from List.take_of_length_le (by omega), List.all_eq_true.2 h]
  rfl
theorem kids11 {ks : List Int} (hl : ks.length ≤ 8) (h : ∀ k ∈ ks, isEx k = true) : kidsB 11 ks = true := by
  unfold kidsB
  rw [if_neg (by omega), if_neg (by omega), if_pos rfl]
  unfold exprs
  rw [List.take_length, List.all_eq_true.2 h, decide_eq_true hl, decide_eq_true (Nat.le_refl _)]
  rfl
theorem kids0 {K : Int} (hK : K = 1 ∨ K = 2 ∨ K = 3 ∨ K = 4) {ks : List Int} (hl : ks.length = 0) : kidsB K ks = true := by
  have e : ks = [] := List.length_eq_zero_iff.1 hl
  subst e
  rcases hK with rfl | rfl | rfl | rfl <;> rfl
theorem own_plain {K n : Int} {a : Nat} {ks : List Int} (hK : K ∈ [(1 : Int), 2, 3, 5, 6, 7, 8, 9, 10]) (hn : numB K n = true) : ownB (En K ks n ⟨#[]⟩ a) = true := by
  have hnm : named K = false := by
    simp only [List.mem_cons, List.not_mem_nil, or_false] at hK
    rcases hK with rfl | rfl | rfl | rfl | rfl | rfl | rfl | rfl | rfl <;> decide
  have hb : 1 ≤ K ∧ K ≤ 26 := by
    simp only [List.mem_cons, List.not_mem_nil, or_false] at hK
    omega
  unfold ownB
  show (decide (1 ≤ K) && decide (K ≤ 26) && decide (0 ≤ (a : Int)) && (if named K = true then _ else _) && numB K n) = true
  rw [decide_eq_true hb.1, decide_eq_true hb.2, decide_eq_true (Int.natCast_nonneg a), hnm, hn]
  rfl
theorem own_name {K : Int} {a : Nat} {ks : List Int} {nm : ByteArray} (hK : K = 4 ∨ K = 11) (hn : nameB nm.data.toList = true) : ownB (En K ks 0 nm a) = true := by
  unfold ownB
  show (decide (1 ≤ K) && decide (K ≤ 26) && decide (0 ≤ (a : Int)) && (if named K = true then nameB nm.data.toList else _) && numB K 0) = true
  rw [hn, decide_eq_true (Int.natCast_nonneg a)]
  rcases hK with rfl | rfl <;> rfl
theorem ShInv.one_mem (h : ShInv L s ps) : s.tok ∈ L := by obtain ⟨_, _, _, h⟩ := h.tok; exact h
/-- nodes without a name, of no kids, one or two -/
theorem nodeOk0 {K n : Int} {a : Nat} (ha : ∃ t ∈ L, a = t.place) (hK : K = 1 ∨ K = 2 ∨ K = 3) (hn : numB K n = true) (hm : 0 ≤ n ∧ n ≤ 9223372036854775807) : NodeOk L (En K [] n ⟨#[]⟩ a) 0 :=
  ⟨own_plain (by rcases hK with rfl | rfl | rfl <;> decide) hn, by rcases hK with rfl | rfl | rfl <;> rfl, fun ks hl _ => kids0 (hK.imp id (fun h => h.imp id .inl)) hl, by obtain ⟨t, ht, rfl⟩ := ha; exact ⟨t, ht, rfl⟩, by omega, hm⟩
theorem nodeOk1 {K : Int} {a : Nat} {q : Int} (ha : ∃ t ∈ L, a = t.place) (hK : K = 6 ∨ K = 7 ∨ K = 9 ∨ K = 10) : NodeOk L (En K [q] 0 ⟨#[]⟩ a) 1 :=
  ⟨own_plain (by rcases hK with rfl | rfl | rfl | rfl <;> decide) (by rcases hK with rfl | rfl | rfl | rfl <;> rfl), by rcases hK with rfl | rfl | rfl | rfl <;> rfl, fun ks hl h => kids1 hK hl h, by obtain ⟨t, ht, rfl⟩ := ha; exact ⟨t, ht, rfl⟩, by omega, by show (0 : Int) ≤ 0 ∧ (0 : Int) ≤ _; omega⟩
theorem nodeOk2 {K n : Int} {a : Nat} {p q : Int} (ha : ∃ t ∈ L, a = t.place) (hK : K = 5 ∨ K = 8) (hn : numB K n = true) (hm : 0 ≤ n ∧ n ≤ 9223372036854775807) : NodeOk L (En K [p, q] n ⟨#[]⟩ a) 2 :=
  ⟨own_plain (by rcases hK with rfl | rfl <;> decide) hn, by rcases hK with rfl | rfl <;> rfl, fun ks hl h => kids2 hK hl h, by obtain ⟨t, ht, rfl⟩ := ha; exact ⟨t, ht, rfl⟩, by omega, hm⟩
theorem nodeOkN {a : Nat} {nm : ByteArray} {l : List Int} (ha : ∃ t ∈ L, a = t.place) (hn : nameB nm.data.toList = true) (hl : l.length ≤ 8) : NodeOk L (En 11 l 0 nm a) l.length :=
  ⟨own_name (.inr rfl) hn, rfl, fun ks hl' h => kids11 (by omega) h, by obtain ⟨t, ht, rfl⟩ := ha; exact ⟨t, ht, rfl⟩, hl, by show (0 : Int) ≤ 0 ∧ (0 : Int) ≤ _; omega⟩
theorem nodeOkV {a : Nat} {nm : ByteArray} (ha : ∃ t ∈ L, a = t.place) (hn : nameB nm.data.toList = true) : NodeOk L (En 4 [] 0 nm a) 0 :=
  ⟨own_name (.inl rfl) hn, rfl, fun ks hl' h => kids0 (.inr (.inr (.inr rfl))) hl', by obtain ⟨t, ht, rfl⟩ := ha; exact ⟨t, ht, rfl⟩, by omega, by show (0 : Int) ≤ 0 ∧ (0 : Int) ≤ _; omega⟩
theorem op_small {lv : Nat} {t : Tk} {o : Nat} (h : opAt lv t = some o) (hlv : lv < 5) : 0 ≤ (o : Int) ∧ (o : Int) ≤ 9223372036854775807 := by
  have := opFrom_sees _ _ h
  have hr : opLast lv ≤ 16 ∧ opFirst lv ≤ opLast lv := by
    have : lv = 0 ∨ lv = 1 ∨ lv = 2 ∨ lv = 3 ∨ lv = 4 := by omega
    rcases this with rfl | rfl | rfl | rfl | rfl <;> decide
  omega
theorem op_range {lv : Nat} (hlv : lv < 5) {t : Tk} {o : Nat} (h : opAt lv t = some o) : numB 5 (o : Int) = true := by
  have := opFrom_sees _ _ h
  have hr : 1 ≤ opFirst lv ∧ opLast lv ≤ 16 ∧ opFirst lv ≤ opLast lv := by
    have : lv = 0 ∨ lv = 1 ∨ lv = 2 ∨ lv = 3 ∨ lv = 4 := by omega
    rcases this with rfl | rfl | rfl | rfl | rfl <;> decide
  unfold numB
  rw [if_neg (by omega), if_neg (by omega), if_pos rfl, decide_eq_true (by omega), decide_eq_true (by omega)]
  rfl
theorem sg_kind {t : Tk} (h : sg t ≠ 0) : t.kind ≠ 0 := fun e => h (by unfold sg sees; rw [e]; rfl)
theorem sg_name {t : Tk} (h : sg t = 8) : t.kind = 1 := by
  unfold sg at h
  repeat' split at h
  all_goals first | omega | assumption
theorem inv_nil (h : ShInv L s ps) : ShInv L s (ps ++ []) := by rw [List.append_nil]; exact h
theorem rd_told (hL : IsTk L) : ∀ (n : Nat) (m : Md) (d : Nat) (s : PS) (v : Out), rd n m d s = some v → ∀ ps, ShPre L m ps s → ShPost L m ps v
  | 0, _, _, _, _, h => by cases h
  | n + 1, .chain lv, d, s, v, h => by
    intro ps hp
    have ih := rd_told hL n
    rw [rd] at h
    split at h
    · have := ih _ _ _ _ h ps hp.2
      cases v with
      | error e => exact this
      | ok x => exact ⟨this.inv, this.few, fun _ => this.one (fun acc e => by cases e)⟩
    · rcases go_ok h with ⟨e, h1, rfl⟩ | ⟨p, s1, h1, h2⟩
      · exact ih _ _ _ _ h1 ps ⟨by have := hp.1; omega, hp.2⟩
      · have a : Got L _ ps p s1 := ih _ _ _ _ h1 ps ⟨by have := hp.1; omega, hp.2⟩
        obtain ⟨x, rfl⟩ := a.one (fun acc e => by cases e)
        have := ih _ _ _ _ h2 ps ⟨by have := hp.1; omega, a.inv⟩
        cases v with
        | error e => exact this
        | ok y => exact ⟨this.inv, this.few, fun _ => this.one (fun acc e => by cases e)⟩
  | n + 1, .loop lv p, d, s, v, h => by
    intro ps hp
    have ih := rd_told hL n
    rw [rd] at h
    cases ho : opAt lv s.tok with
    | none => rw [ho] at h; injection h with h; subst h; exact ⟨hp.2, by show 1 ≤ 8; omega, fun _ => ⟨p, rfl⟩⟩
    | some op =>
      rw [ho] at h
      have hin := hp.2.next hL (sees_kind' (opAt_sees ho))
      rcases go_ok h with ⟨e, h1, rfl⟩ | ⟨q, s1, h1, h2⟩
      · exact ih _ _ _ _ h1 (ps ++ [p]) ⟨by have := hp.1; omega, hin⟩
      · have a : Got L _ (ps ++ [p]) q s1 := ih _ _ _ _ h1 (ps ++ [p]) ⟨by have := hp.1; omega, hin⟩
        obtain ⟨x, rfl⟩ := a.one (fun acc e => by cases e)
        have hi : ShInv L s1 (ps ++ [p, x]) := by have := a.inv; rw [List.append_assoc] at this; exact this
        have hl := (ShInv.lay hi (x := En 5 [p, x] op ⟨#[]⟩ s.tok.place) rfl (nodeOk2 ⟨_, hp.2.one_mem, rfl⟩ (.inl rfl) (op_range hp.1 ho) (op_small ho hp.1))).post (m := .loop lv p)
        rcases go_ok h2 with ⟨e, h3, rfl⟩ | ⟨k, s2, h3, h4⟩
        · injection h3 with h3
          rw [show hd1 [x] = x from rfl] at h3
          rw [h3] at hl
          exact hl
        · injection h3 with h3
          rw [show hd1 [x] = x from rfl] at h3
          rw [h3] at hl
          split at h4
          · injection h4 with h4; subst h4; exact hl
          · obtain ⟨y, rfl⟩ := hl.one (fun acc e => by cases e)
            have := ih _ _ _ _ h4 ps ⟨hp.1, hl.inv⟩
            cases v with
            | error e => exact this
            | ok y => exact ⟨this.inv, this.few, fun _ => this.one (fun acc e => by cases e)⟩
  | n + 1, .front, d, s, v, h => by
    intro ps hp
    have hp : ShInv L s ps := hp
    have ih := rd_told hL n
    rw [rd] at h
    split at h
    · rename_i g
      have hs : ShInv L s.next ps := by
        rw [Bool.or_eq_true] at g
        rcases g with g | g
        · exact hp.next_is hL g
        · exact hp.next_is hL g
      split at h
      · injection h with h; subst h; exact ⟨_, hp.one_mem, rfl⟩
      · rcases go_ok h with ⟨e, h1, rfl⟩ | ⟨q, s1, h1, h2⟩
        · exact ih _ _ _ _ h1 ps hs
        · have a : Got L _ ps q s1 := ih _ _ _ _ h1 ps hs
          obtain ⟨x, rfl⟩ := a.one (fun acc e => by cases e)
          injection h2 with h2
          subst h2
          exact (ShInv.lay a.inv rfl (nodeOk1 ⟨_, hp.one_mem, rfl⟩ (by split <;> omega))).post
    · have := ih _ _ _ _ h ps hp
      cases v with
      | error e => exact this
      | ok y => exact ⟨this.inv, this.few, fun _ => this.one (fun acc e => by cases e)⟩
  | n + 1, .idx, d, s, v, h => by
    intro ps hp
    have ih := rd_told hL n
    rw [rd] at h
    rcases go_ok h with ⟨e, h1, rfl⟩ | ⟨p, s1, h1, h2⟩
    · exact ih _ _ _ _ h1 ps hp
    · have a : Got L _ ps p s1 := ih _ _ _ _ h1 ps hp
      obtain ⟨x, rfl⟩ := a.one (fun acc e => by cases e)
      have := ih _ _ _ _ h2 ps a.inv
      cases v with
      | error e => exact this
      | ok y => exact ⟨this.inv, this.few, fun _ => this.one (fun acc e => by cases e)⟩
  | n + 1, .more p, d, s, v, h => by
    intro ps hp
    have hp : ShInv L s (ps ++ [p]) := hp
    have ih := rd_told hL n
    rw [rd] at h
    split at h
    · rename_i g
      rcases go_ok h with ⟨e, h1, rfl⟩ | ⟨q, s1, h1, h2⟩
      · exact ih _ _ _ _ h1 (ps ++ [p]) hp
      · have a : Got L _ (ps ++ [p]) q s1 := ih _ _ _ _ h1 (ps ++ [p]) hp
        obtain ⟨x, rfl⟩ := a.one (fun acc e => by cases e)
        have hi : ShInv L s1 (ps ++ [p, x]) := by have := a.inv; rw [List.append_assoc] at this; exact this
        have hl := (ShInv.lay hi (x := En 8 [p, x] 0 ⟨#[]⟩ s.tok.place) rfl (nodeOk2 ⟨_, hp.one_mem, rfl⟩ (.inr rfl) rfl (by omega))).post (m := .more p)
        rcases go_ok h2 with ⟨e, h3, rfl⟩ | ⟨k, s2, h3, h4⟩
        · injection h3 with h3
          rw [show hd1 [x] = x from rfl] at h3
          rw [h3] at hl
          exact hl
        · injection h3 with h3
          rw [show hd1 [x] = x from rfl] at h3
          rw [h3] at hl
          obtain ⟨y, rfl⟩ := hl.one (fun acc e => by cases e)
          have := ih _ _ _ _ h4 ps hl.inv
          cases v with
          | error e => exact this
          | ok y => exact ⟨this.inv, this.few, fun _ => this.one (fun acc e => by cases e)⟩
    · injection h with h; subst h; exact ⟨hp, by show 1 ≤ 8; omega, fun _ => ⟨p, rfl⟩⟩
  | n + 1, .inner a b, d, s, v, h => by
    intro ps hp
    have hp : ShInv L s ps := hp
    have ih := rd_told hL n
    rw [rd] at h
    split at h
    · rename_i g
      have hs := hp.next_is hL g
      split at h
      · injection h with h; subst h; exact ⟨_, hp.one_mem, rfl⟩
      · rcases go_ok h with ⟨e, h1, rfl⟩ | ⟨q, s1, h1, h2⟩
        · exact ih _ _ _ _ h1 ps ⟨by omega, hs⟩
        · have a : Got L _ ps q s1 := ih _ _ _ _ h1 ps ⟨by omega, hs⟩
          split at h2
          · rename_i g2
            injection h2 with h2
            subst h2
            exact ⟨a.inv.next_is hL g2, a.few, fun _ => a.one (fun acc e => by cases e)⟩
          · injection h2 with h2; subst h2; exact ⟨_, a.inv.one_mem, rfl⟩
    · injection h with h; subst h; exact ⟨_, hp.one_mem, rfl⟩
  | n + 1, .call nm at_, d, s, v, h => by
    intro ps hp
    obtain ⟨hp, hnm, hat⟩ := hp
    have ih := rd_told hL n
    rw [rd] at h
    split at h
    · rename_i g
      have hs := hp.next_is hL g
      split at h
      · injection h with h; subst h; exact ⟨_, hp.one_mem, rfl⟩
      · rcases go_ok h with ⟨e, h1, rfl⟩ | ⟨q, s1, h1, h2⟩
        · split at h1
          · cases h1
          · exact ih _ _ _ _ h1 ps ⟨inv_nil hs, by show 0 ≤ 8; omega⟩
        · have a' : ShInv L s1 (ps ++ q) ∧ q.length ≤ 8 := by
            split at h1
            · injection h1 with h1; injection h1 with h1; injection h1 with h3 h4; subst h3 h4; exact ⟨inv_nil hs, by show 0 ≤ 8; omega⟩
            · have a : Got L _ ps q s1 := ih _ _ _ _ h1 ps ⟨inv_nil hs, by show 0 ≤ 8; omega⟩
              exact ⟨a.inv, a.few⟩
          split at h2
          · rename_i g2
            injection h2 with h2
            subst h2
            exact (ShInv.lay (a'.1.next_is hL g2) rfl (nodeOkN hat hnm a'.2)).post
          · injection h2 with h2; subst h2; exact ⟨_, a'.1.one_mem, rfl⟩
    · injection h with h; subst h; exact ⟨_, hp.one_mem, rfl⟩
  | n + 1, .args acc, d, s, v, h => by
    intro ps hp
    obtain ⟨hp, hac⟩ := hp
    have ih := rd_told hL n
    rw [rd] at h
    split at h
    · injection h with h; subst h; exact ⟨_, hp.one_mem, rfl⟩
    · rename_i h8
      rcases go_ok h with ⟨e, h1, rfl⟩ | ⟨p, s1, h1, h2⟩
      · exact ih _ _ _ _ h1 (ps ++ acc) ⟨by omega, hp⟩
      · have a : Got L _ (ps ++ acc) p s1 := ih _ _ _ _ h1 (ps ++ acc) ⟨by omega, hp⟩
        obtain ⟨x, rfl⟩ := a.one (fun acc e => by cases e)
        have hi : ShInv L s1 (ps ++ (acc ++ [x])) := by have := a.inv; rw [List.append_assoc] at this; exact this
        have hlen : (acc ++ [x]).length ≤ 8 := by rw [List.length_append]; show acc.length + 1 ≤ 8; omega
        split at h2
        · rename_i g2
          have := ih _ _ _ _ h2 ps ⟨hi.next_is hL g2, hlen⟩
          cases v with
          | error e => exact this
          | ok y => exact ⟨this.inv, this.few, fun hh => absurd rfl (hh acc)⟩
        · injection h2 with h2; subst h2
          exact ⟨hi, hlen, fun hh => absurd rfl (hh acc)⟩
  | n + 1, .single, d, s, v, h => by
    intro ps hp
    have hp : ShInv L s ps := hp
    have ih := rd_told hL n
    rw [rd_single] at h
    have hnx : sg s.tok ≠ 0 → ShInv L s.next ps := fun h0 => hp.next hL (sg_kind h0)
    have leaf : sg s.tok ≠ 0 → ∀ K N, (K = 1 ∨ K = 2 ∨ K = 3) → numB K N = true → (0 ≤ N ∧ N ≤ 9223372036854775807) → some (lay (En K [] N ⟨#[]⟩ s.tok.place) s.next) = some v → ShPost L .single ps v := by
      intro h0 K N hK hN hM hx
      injection hx with hx
      subst hx
      exact (ShInv.lay (inv_nil (hnx h0)) rfl (nodeOk0 ⟨_, hp.one_mem, rfl⟩ hK hN hM)).post
    have arnd : sg s.tok ≠ 0 → ∀ K, (K = 6 ∨ K = 7 ∨ K = 9 ∨ K = 10) → (Out.go (rd n (.inner lp rp) d s.next) fun q s1 => some (lay (En K [hd1 q] 0 ⟨#[]⟩ s.tok.place) s1)) = some v → ShPost L .single ps v := by
      intro h0 K hK hx
      rcases go_ok hx with ⟨e, h1, rfl⟩ | ⟨q, s1, h1, h2⟩
      · exact ih _ _ _ _ h1 ps (hnx h0)
      · have a : Got L _ ps q s1 := ih _ _ _ _ h1 ps (hnx h0)
        obtain ⟨x, rfl⟩ := a.one (fun acc e => by cases e)
        injection h2 with h2
        subst h2
        exact (ShInv.lay a.inv rfl (nodeOk1 ⟨_, hp.one_mem, rfl⟩ hK)).post
    split at h
    · have := ih _ _ _ _ h ps hp
      cases v with
      | error e => exact this
      | ok y => exact ⟨this.inv, this.few, fun _ => this.one (fun acc e => by cases e)⟩
    · rename_i hg; exact leaf (by rw [hg]; decide) _ _ (by omega) rfl (by omega) h
    · rename_i hg; exact leaf (by rw [hg]; decide) _ _ (by omega) rfl (by omega) h
    · rename_i hg; exact leaf (by rw [hg]; decide) _ _ (by omega) rfl (by omega) h
    · rename_i hg; exact arnd (by rw [hg]; decide) _ (by omega) h
    · rename_i hg; exact arnd (by rw [hg]; decide) _ (by omega) h
    · rename_i hg; exact leaf (by rw [hg]; decide) _ _ (by omega) (by unfold numB; rw [if_pos rfl]; exact decide_eq_true (Int.natCast_nonneg _)) (by have := hL.num _ hp.one_mem; omega) h
    · rename_i hg
      have h0 : sg s.tok ≠ 0 := by rw [hg]; decide
      have hnm := hL.name _ hp.one_mem (sg_name hg)
      split at h
      · have := ih _ _ _ _ h ps ⟨hnx h0, hnm, ⟨_, hp.one_mem, rfl⟩⟩
        cases v with
        | error e => exact this
        | ok y => exact ⟨this.inv, this.few, fun _ => this.one (fun acc e => by cases e)⟩
      · injection h with h
        subst h
        exact (ShInv.lay (inv_nil (hnx h0)) rfl (nodeOkV ⟨_, hp.one_mem, rfl⟩ hnm)).post
    · injection h with h; subst h; exact ⟨_, hp.one_mem, rfl⟩
/-- what is read of all tokens -/
theorem reads_told (hL : IsTk L) (h0 : 0 < L.length) {v : Out} (h : Reads (.chain 0) 0 ⟨L, [], []⟩ v) : match v with
    | .error f => ∃ t ∈ L, f.2 = t.place
    | .ok (_, s') => Rt s'.l ∧ isEx (nd s'.l (s'.l.length - 1)).kind = true ∧ (∀ x ∈ s'.l, ∃ t ∈ L, x.at_ = (t.place : Int)) ∧ (∀ x ∈ s'.l, x.kids.length ≤ 8) ∧ s'.tok ∈ L ∧ ∀ x ∈ s'.l, 0 ≤ x.n ∧ x.n ≤ 9223372036854775807 := by
  obtain ⟨n, hn⟩ := h
  have hI : ShInv L ⟨L, [], []⟩ [] := ⟨⟨0, h0, rfl⟩, List.Perm.refl _, (fun i hi => by simp at hi), rfl, (fun i hi => by simp at hi), (fun i hi => by simp at hi), (fun i hi => by simp at hi), (fun x hx => by simp at hx), (fun x hx => by simp at hx), (fun x hx => by simp at hx)⟩
  have hp := rd_told hL n _ _ _ _ hn [] ⟨by omega, hI⟩
  cases v with
  | error f => exact hp
  | ok x =>
    obtain ⟨l, s'⟩ := x
    have hp : Got L _ [] l s' := hp
    obtain ⟨p, rfl⟩ := hp.one (fun acc e => by cases e)
    have hv := hp.inv
    rw [List.nil_append] at hv
    have hpm := hv.mem (List.mem_singleton.2 rfl)
    have hlen : 0 < s'.l.length := by omega
    have hperm := hv.fo
    have hnd : (kidsOf s'.l ++ [p]).Nodup := hperm.nodup_iff.2 (by unfold rng List.Nodup; rw [List.pairwise_map]; exact (List.nodup_range (n := s'.l.length)).imp (fun h e => h (Int.ofNat.inj e)))
    have hcount : (kidsOf s'.l ++ [p]).length = s'.l.length := by rw [hperm.length_eq]; unfold rng; simp
    refine ⟨⟨⟨hlen, hv.ahead, ?_, ?_⟩, fun i hi => (hv.fit i hi).1, hv.low _ (by omega)⟩, (hv.fit _ (by omega)).2, hv.stand, hv.few, hv.one_mem, hv.nums⟩
    · rw [allK_all]; exact (List.nodup_append.1 hnd).1
    · rw [allK_all]
      rw [List.length_append] at hcount
      have : (kidsOf s'.l).length + 1 = s'.l.length := hcount
      omega
end Go.Proofs.YtnmeijcaaohnpaaDoor
