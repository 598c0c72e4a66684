/- ExprShape, ParseShape, ParseSlack, in one text. -/
import Derived.Test.YtagacfcpepoaoaaGreatDoorExprRules
import Derived.Test.YtagacfcpepoaoaaGreatDoorTreeNd
import Derived.Test.YtagacfcpepoaoaaGreatDoorMRules
namespace Go.Proofs.YtagacfcpepoaoaaGreatDoor
set_option linter.unusedVariables false

theorem snd_left {A C : List Nd} {i : Nat} (h : i < A.length) : nd (A ++ C) i = nd A i := by
  unfold nd; rw [List.getD_eq_getElem?_getD, List.getD_eq_getElem?_getD, List.getElem?_append_left h]
theorem snd_last {A : List Nd} {x : Nd} : nd (A ++ [x]) A.length = x := by
  unfold nd; rw [List.getD_eq_getElem?_getD, List.getElem?_append_right (Nat.le_refl _), Nat.sub_self]; rfl
/-- all kids -/
def kidsOf (l : List Nd) : List Int := l.flatMap (fun x => x.kids)
theorem kidsOf_snoc (l : List Nd) (x : Nd) : kidsOf (l ++ [x]) = kidsOf l ++ x.kids := by unfold kidsOf; rw [List.flatMap_append]; simp
theorem allK_all (l : List Nd) : allK l l.length = kidsOf l := by unfold allK kidsOf; rw [List.take_length]
/-- the places of n nodes -/
def rng (n : Nat) : List Int := (List.range n).map Int.ofNat
theorem rng_succ (n : Nat) : rng (n + 1) = rng n ++ [(n : Int)] := by unfold rng; rw [List.range_succ, List.map_append]; rfl
theorem mem_rng {n : Nat} {z : Int} : z ∈ rng n ↔ 0 ≤ z ∧ z < (n : Int) := by
  unfold rng
  rw [List.mem_map]
  constructor
  · rintro ⟨i, hi, rfl⟩
    have := List.mem_range.1 hi
    exact ⟨Int.natCast_nonneg i, by show (i : Int) < _; omega⟩
  · rintro ⟨h1, h2⟩
    exact ⟨z.toNat, List.mem_range.2 (by omega), by show ((z.toNat : Nat) : Int) = z; omega⟩
theorem Ahead.snoc {l : List Nd} {x : Nd} (h : Ahead l) (hx : ∀ k ∈ x.kids, 0 ≤ k ∧ k < (l.length : Int)) : Ahead (l ++ [x]) := by
  intro i hi k hk
  rw [List.length_append] at hi
  have hi' : i < l.length + 1 := hi
  rcases Nat.lt_or_ge i l.length with g | g
  · rw [snd_left g] at hk; exact h i g k hk
  · have e : i = l.length := by omega
    subst e
    rw [snd_last] at hk
    exact hx k hk
theorem hgt_left {l : List Nd} {x : Nd} (h : Ahead l) (h' : Ahead (l ++ [x])) : ∀ n i, i < n → i < l.length → hgt (l ++ [x]) i = hgt l i := by
  intro n
  induction n with
  | zero => intro i h; omega
  | succ n ih =>
    intro i hn hi
    rw [hgt_eq h' (by rw [List.length_append]; omega), hgt_eq h hi, snd_left hi]
    congr 1
    apply List.map_congr_left
    intro k hk
    have := h i hi k hk
    exact ih k.toNat (by omega) (by omega)
theorem high_fold {h : List Nat} {l : List Nd} (hh : ∀ i, i < l.length → h.getD i 0 = hgt l i) (hn : h.length = l.length) : ∀ (ks : List Int) (a : Nat), (∀ k ∈ ks, 0 ≤ k ∧ k < (l.length : Int)) → ks.foldl (hstep h) a = (ks.map (fun k => hgt l k.toNat)).foldl (fun h x => max h (1 + x)) a
  | [], a, _ => rfl
  | k :: ks, a, hk => by
    have h1 := hk k (List.mem_cons_self ..)
    have e : hstep h a k = max a (1 + hgt l k.toNat) := by
      unfold hstep
      rw [if_pos ⟨h1.1, by rw [hn]; exact h1.2⟩, hh k.toNat (by omega), Nat.add_comm]
    show ks.foldl (hstep h) (hstep h a k) = _
    rw [e]
    exact high_fold hh hn ks _ (fun k hk' => hk k (List.mem_cons_of_mem _ hk'))
/-- tokens as lex tells them -/
structure IsTk (L : List Tk) : Prop where
  fin : ∀ j t, L[j]? = some t → t.kind ≠ 0 → j + 1 < L.length
  name : ∀ t ∈ L, t.kind = 1 → nameB t.text = true
  num : ∀ t ∈ L, t.n ≤ 9223372036854775807
/-- what holds of a reader whose last trees have the roots ps; St: where nodes may stand -/
structure ShInv (St : Int → Prop) (L : List Tk) (s : PS) (ps : List Int) : Prop where
  suf : ∃ j, j < L.length ∧ s.r = L.drop j
  fo : (kidsOf s.l ++ ps).Perm (rng s.l.length)
  ahead : Ahead s.l
  hn : s.h.length = s.l.length
  hh : ∀ i, i < s.l.length → s.h.getD i 0 = hgt s.l i
  low : ∀ i, i < s.l.length → hgt s.l i ≤ 200
  fit : ∀ i, i < s.l.length → fitB s.l (nd s.l i) = true
  stand : ∀ x ∈ s.l, St x.at_
  nums : ∀ x ∈ s.l, 0 ≤ x.n ∧ x.n ≤ 9223372036854775807
variable {St : Int → Prop} {L : List Tk} {s s1 s2 : PS} {ps : List Int}
theorem ShInv.tok (h : ShInv St L s ps) : ∃ j, L[j]? = some s.tok ∧ s.r = L.drop j ∧ s.tok ∈ L := by
  obtain ⟨j, hj, hr⟩ := h.suf
  have e : L.drop j = L[j] :: L.drop (j + 1) := List.drop_eq_getElem_cons hj
  have et : s.tok = L[j] := by unfold PS.tok; rw [hr, e]; rfl
  exact ⟨j, by rw [et]; exact List.getElem?_eq_getElem hj, hr, by rw [et]; exact List.getElem_mem _⟩
theorem ShInv.one_mem (h : ShInv St L s ps) : s.tok ∈ L := by obtain ⟨_, _, _, h⟩ := h.tok; exact h
theorem ShInv.next (hL : IsTk L) (h : ShInv St L s ps) (hk : s.tok.kind ≠ 0) : ShInv St L s.next ps := by
  obtain ⟨j, hj, hr, _⟩ := h.tok
  have := hL.fin j _ hj hk
  refine ⟨⟨j + 1, this, ?_⟩, h.fo, h.ahead, h.hn, h.hh, h.low, h.fit, h.stand, h.nums⟩
  show s.r.tail = _
  rw [hr, List.tail_drop]
theorem sees_kind' {t : Tk} {b : List UInt8} (h : sees t b = true) : t.kind ≠ 0 := by
  unfold sees at h
  simp at h
  omega
theorem ShInv.next_is (hL : IsTk L) (h : ShInv St L s ps) {b : List UInt8} (hb : s.is b = true) : ShInv St L s.next ps := h.next hL (sees_kind' hb)
theorem ShInv.mem (h : ShInv St L s ps) {k : Int} (hk : k ∈ ps) : 0 ≤ k ∧ k < (s.l.length : Int) := mem_rng.1 (h.fo.subset (List.mem_append_right _ hk))
theorem inv_nil (h : ShInv St L s ps) : ShInv St L s (ps ++ []) := by rw [List.append_nil]; exact h
/-- nodes more -/
def Ext (s s' : PS) : Prop := ∃ r, s'.l = s.l ++ r
theorem Ext.refl (s : PS) : Ext s s := ⟨[], (List.append_nil _).symm⟩
theorem Ext.of_next : Ext s s.next := ⟨[], (List.append_nil _).symm⟩
theorem Ext.trans (h : Ext s s1) (g : Ext s1 s2) : Ext s s2 := by
  obtain ⟨r, e⟩ := h
  obtain ⟨r', e'⟩ := g
  exact ⟨r ++ r', by rw [e', e, List.append_assoc]⟩
theorem Ext.then_next (h : Ext s s1) : Ext s s1.next := h.trans .of_next
/-- the kind of the node at a place -/
def kdN (s : PS) (p : Int) : Int := (nd s.l p.toNat).kind
theorem Ext.kd (h : Ext s s1) {p : Int} (hp : 0 ≤ p ∧ p < (s.l.length : Int)) : kdN s1 p = kdN s p := by
  obtain ⟨r, e⟩ := h
  unfold kdN
  rw [e, snd_left (by omega)]
theorem Ext.kds (h : Ext s s1) (hi : ShInv St L s ps) {p : Int} (hp : p ∈ ps) : kdN s1 p = kdN s p := h.kd (hi.mem hp)
/-- a node that may be laid -/
structure NodeFit (St : Int → Prop) (s : PS) (x : Nd) : Prop where
  own : ownB x = true
  kids : kidsB x.kind (x.kids.map (kdN s)) = true
  stand : St x.at_
  nums : 0 ≤ x.n ∧ x.n ≤ 9223372036854775807
/-- it is laid -/
structure LaidOk (St : Int → Prop) (L : List Tk) (s : PS) (ps : List Int) (x : Nd) (l : List Int) (s' : PS) : Prop where
  inv : ShInv St L s' (ps ++ l)
  root : ∃ p, l = [p] ∧ kdN s' p = x.kind
  ext : Ext s s'
def ShTold (St : Int → Prop) (L : List Tk) (s : PS) (ps : List Int) (x : Nd) (v : Out) : Prop := match v with
  | .ok (l, s') => LaidOk St L s ps x l s'
  | .error f => St (f.2 : Int)
theorem ShInv.lay {x : Nd} {qs : List Int} (h : ShInv St L s (ps ++ qs)) (hx : x.kids = qs) (ho : NodeFit St s x) (ha : 0 ≤ x.at_) : ShTold St L s ps x (lay x s) := by
  have hq : ∀ k ∈ x.kids, 0 ≤ k ∧ k < (s.l.length : Int) := fun k hk => h.mem (List.mem_append_right _ (by rw [← hx]; exact hk))
  unfold Go.Proofs.YtagacfcpepoaoaaGreatDoor.lay
  split
  · show St ((x.at_.toNat : Nat) : Int)
    rw [show ((x.at_.toNat : Nat) : Int) = x.at_ by omega]
    exact ho.stand
  · rename_i hh
    have hA := h.ahead.snoc hq
    have hnew : hgt (s.l ++ [x]) s.l.length = high s.h x.kids := by
      rw [hgt_eq hA (by simp), snd_last]
      unfold high
      rw [high_fold h.hh h.hn x.kids 1 hq]
      congr 1
      apply List.map_congr_left
      intro k hk
      have := hq k hk
      exact hgt_left h.ahead hA (k.toNat + 1) k.toNat (by omega) (by omega)
    have hold : ∀ i, i < s.l.length → hgt (s.l ++ [x]) i = hgt s.l i := fun i hi => hgt_left h.ahead hA (i + 1) i (by omega) hi
    have hlen : ∀ i, i < (s.l ++ [x]).length → i < s.l.length ∨ i = s.l.length := fun i hi => by rw [List.length_append] at hi; have : i < s.l.length + 1 := hi; omega
    have hkk : ∀ y : Nd, (∀ k ∈ y.kids, 0 ≤ k ∧ k < (s.l.length : Int)) → kk (s.l ++ [x]) y = kk s.l y := by
      intro y hy
      unfold kk
      apply List.map_congr_left
      intro k hk
      have := hy k hk
      rw [snd_left (by omega)]
    refine ⟨⟨h.suf, ?_, hA, ?_, ?_, ?_, ?_, ?_, ?_⟩, ⟨_, rfl, ?_⟩, ⟨[x], rfl⟩⟩
    · show (kidsOf (s.l ++ [x]) ++ (ps ++ [(s.l.length : Int)])).Perm (rng (s.l ++ [x]).length)
      rw [kidsOf_snoc, List.length_append, show [x].length = 1 from rfl, rng_succ, hx]
      have h1 := h.fo
      have h2 : (kidsOf s.l ++ qs ++ (ps ++ [(s.l.length : Int)])).Perm (kidsOf s.l ++ (ps ++ qs) ++ [(s.l.length : Int)]) := by
        rw [List.append_assoc, List.append_assoc, ← List.append_assoc qs ps]
        exact List.Perm.append_left _ (List.Perm.append_right _ List.perm_append_comm)
      exact h2.trans (List.Perm.append_right _ h1)
    · show (s.h ++ [_]).length = (s.l ++ [x]).length
      rw [List.length_append, List.length_append, h.hn]
      rfl
    · intro i hi
      show (s.h ++ [high s.h x.kids]).getD i 0 = _
      rcases hlen i hi with g | g
      · rw [hold i g, ← h.hh i g, List.getD_eq_getElem?_getD, List.getElem?_append_left (by rw [h.hn]; exact g), ← List.getD_eq_getElem?_getD]
      · subst g
        show _ = hgt (s.l ++ [x]) s.l.length
        rw [hnew, List.getD_eq_getElem?_getD, List.getElem?_append_right (by rw [h.hn]; exact Nat.le_refl _), h.hn, Nat.sub_self]
        rfl
    · intro i hi
      show hgt (s.l ++ [x]) i ≤ 200
      rcases hlen i hi with g | g
      · rw [hold i g]; exact h.low i g
      · subst g; rw [hnew]; omega
    · intro i hi
      show fitB (s.l ++ [x]) (nd (s.l ++ [x]) i) = true
      rcases hlen i hi with g | g
      · rw [snd_left g]
        have h1 := h.fit i g
        unfold fitB at h1 ⊢
        rw [hkk _ (fun k hk => by have := h.ahead i g k hk; omega)]
        exact h1
      · subst g
        rw [snd_last]
        unfold fitB
        rw [ho.own, hkk x hq, Bool.true_and]
        exact ho.kids
    · intro y hy
      rcases List.mem_append.1 hy with hy | hy
      · exact h.stand y hy
      · rw [List.mem_singleton.1 hy]; exact ho.stand
    · intro y hy
      rcases List.mem_append.1 hy with hy | hy
      · exact h.nums y hy
      · rw [List.mem_singleton.1 hy]; exact ho.nums
    · show (nd (s.l ++ [x]) ((s.l.length : Int)).toNat).kind = _
      rw [Int.toNat_natCast, snd_last]
/-- what is read has these roots more, expressions -/
structure Got (St : Int → Prop) (L : List Tk) (m : Md) (s : PS) (ps : List Int) (l : List Int) (s' : PS) : Prop where
  inv : ShInv St L s' (ps ++ l)
  few : l.length ≤ 8
  one : (∀ acc, m ≠ .args acc) → ∃ p, l = [p]
  ex : ∀ p ∈ l, isEx (kdN s' p) = true
  ext : Ext s s'
def ShPre (St : Int → Prop) (L : List Tk) (m : Md) (ps : List Int) (s : PS) : Prop := match m with
  | .chain lv => lv ≤ 5 ∧ ShInv St L s ps
  | .loop lv p => lv < 5 ∧ ShInv St L s (ps ++ [p]) ∧ isEx (kdN s p) = true
  | .more p => ShInv St L s (ps ++ [p]) ∧ isEx (kdN s p) = true
  | .call nm a => ShInv St L s ps ∧ nameB nm.data.toList = true ∧ St (a : Int)
  | .args acc => ShInv St L s (ps ++ acc) ∧ acc.length ≤ 8 ∧ ∀ p ∈ acc, isEx (kdN s p) = true
  | _ => ShInv St L s ps
def ShPost (St : Int → Prop) (L : List Tk) (m : Md) (s : PS) (ps : List Int) (v : Out) : Prop := match v with
  | .error f => St (f.2 : Int)
  | .ok (l, s') => Got St L m s ps l s'
theorem ShTold.post {m : Md} {x : Nd} {v : Out} {s0 : PS} (h : ShTold St L s ps x v) (hx : isEx x.kind = true) (hs : Ext s0 s) : ShPost St L m s0 ps v := by
  cases v with
  | error f => exact h
  | ok y =>
    obtain ⟨l, s'⟩ := y
    have h : LaidOk St L s ps x l s' := h
    obtain ⟨p, rfl, hk⟩ := h.root
    exact ⟨h.inv, by show 1 ≤ 8; omega, fun _ => ⟨p, rfl⟩, fun q hq => by rw [List.mem_singleton.1 hq, hk]; exact hx, hs.trans h.ext⟩
/-- what was read on from where a part was read -/
theorem ShPost.from {m m' : Md} {v : Out} {s0 : PS} (h : ShPost St L m s ps v) (hs : Ext s0 s) (hm : (∀ acc, m' ≠ .args acc) → ∀ acc, m ≠ .args acc) : ShPost St L m' s0 ps v := by
  cases v with
  | error f => exact h
  | ok y =>
    obtain ⟨l, s'⟩ := y
    have h : Got St L m s ps l s' := h
    exact ⟨h.inv, h.few, fun g => h.one (hm g), h.ex, hs.trans h.ext⟩
theorem kids2 {K : Int} (hK : K = 5 ∨ K = 8) {ks : List Int} (hl : ks.length = 2) (h : ∀ k ∈ ks, isEx k = true) : kidsB K ks = true := by
  unfold kidsB
  rw [if_pos (by omega), hl]
  unfold exprs
  rw [hl, show ks.take 2 = ks from List.take_of_length_le (by omega), List.all_eq_true.2 h]
  rfl
theorem kids1 {K : Int} (hK : K = 6 ∨ K = 7 ∨ K = 9 ∨ K = 10 ∨ K = 12 ∨ K = 13 ∨ K = 20 ∨ K = 21) {ks : List Int} (hl : ks.length = 1) (h : ∀ k ∈ ks, isEx k = true) : kidsB K ks = true := by
  unfold kidsB
  rw [if_neg (by omega), if_pos (by omega), hl]
  unfold exprs
  rw [hl, show ks.take 1 = ks from List.take_of_length_le (by omega), List.all_eq_true.2 h]
  rfl
theorem kids11 {ks : List Int} (hl : ks.length ≤ 8) (h : ∀ k ∈ ks, isEx k = true) : kidsB 11 ks = true := by
  unfold kidsB
  rw [if_neg (by omega), if_neg (by omega), if_pos rfl]
  unfold exprs
  rw [List.take_length, List.all_eq_true.2 h, decide_eq_true hl, decide_eq_true (Nat.le_refl _)]
  rfl
theorem own_plain {K n : Int} {a : Nat} {ks : List Int} (hK : K ∈ [(1 : Int), 2, 3, 5, 6, 7, 8, 9, 10, 15, 16, 18, 19, 20, 21, 22, 23, 26]) (hn : numB K n = true) : ownB (En K ks n ⟨#[]⟩ a) = true := by
  have hnm : named K = false := by
    simp only [List.mem_cons, List.not_mem_nil, or_false] at hK
    rcases hK with rfl | rfl | rfl | rfl | rfl | rfl | rfl | rfl | rfl | rfl | rfl | rfl | rfl | rfl | rfl | rfl | rfl | rfl <;> decide
  have hb : 1 ≤ K ∧ K ≤ 26 := by
    simp only [List.mem_cons, List.not_mem_nil, or_false] at hK
    omega
  unfold ownB
  show (decide (1 ≤ K) && decide (K ≤ 26) && decide (0 ≤ (a : Int)) && (if named K = true then _ else _) && numB K n) = true
  rw [decide_eq_true hb.1, decide_eq_true hb.2, decide_eq_true (Int.natCast_nonneg a), hnm, hn]
  rfl
theorem own_name {K n : Int} {a : Nat} {ks : List Int} {nm : ByteArray} (hK : K ∈ [(4 : Int), 11, 12, 13, 14, 17, 24, 25]) (hm : nameB nm.data.toList = true) (hn : numB K n = true) : ownB (En K ks n nm a) = true := by
  have hnm : named K = true := decide_eq_true hK
  have hb : 1 ≤ K ∧ K ≤ 26 := by
    simp only [List.mem_cons, List.not_mem_nil, or_false] at hK
    omega
  unfold ownB
  show (decide (1 ≤ K) && decide (K ≤ 26) && decide (0 ≤ (a : Int)) && (if named K = true then nameB nm.data.toList else _) && numB K n) = true
  rw [decide_eq_true hb.1, decide_eq_true hb.2, decide_eq_true (Int.natCast_nonneg a), hnm, hn, hm]
  rfl
theorem zero_ok : (0 : Int) ≤ 0 ∧ (0 : Int) ≤ 9223372036854775807 := by omega
theorem nat_at (a : Nat) {K n : Int} {ks : List Int} {nm : ByteArray} : 0 ≤ (En K ks n nm (a : Int)).at_ := Int.natCast_nonneg a
theorem nodeOk0 {K n : Int} {a : Nat} (ha : St (a : Int)) (hK : K = 1 ∨ K = 2 ∨ K = 3) (hn : numB K n = true) (hm : 0 ≤ n ∧ n ≤ 9223372036854775807) : NodeFit St s (En K [] n ⟨#[]⟩ a) :=
  ⟨own_plain (by rcases hK with rfl | rfl | rfl <;> decide) hn, by rcases hK with rfl | rfl | rfl <;> rfl, ha, hm⟩
theorem nodeOk1 {K : Int} {a : Nat} {q : Int} (ha : St (a : Int)) (hK : K = 6 ∨ K = 7 ∨ K = 9 ∨ K = 10) (hq : isEx (kdN s q) = true) : NodeFit St s (En K [q] 0 ⟨#[]⟩ a) :=
  ⟨own_plain (by rcases hK with rfl | rfl | rfl | rfl <;> decide) (by rcases hK with rfl | rfl | rfl | rfl <;> rfl), kids1 (K := K) (by omega) rfl (fun k hk => by rw [List.mem_singleton.1 hk]; exact hq), ha, zero_ok⟩
theorem nodeOk2 {K n : Int} {a : Nat} {p q : Int} (ha : St (a : Int)) (hK : K = 5 ∨ K = 8) (hn : numB K n = true) (hm : 0 ≤ n ∧ n ≤ 9223372036854775807) (hp : isEx (kdN s p) = true) (hq : isEx (kdN s q) = true) : NodeFit St s (En K [p, q] n ⟨#[]⟩ a) :=
  ⟨own_plain (by rcases hK with rfl | rfl <;> decide) hn, kids2 hK rfl (fun k hk => by
    have hk' : k ∈ [kdN s p, kdN s q] := hk
    simp only [List.mem_cons, List.not_mem_nil, or_false] at hk'
    rcases hk' with rfl | rfl
    · exact hp
    · exact hq), ha, hm⟩
theorem nodeOkN {a : Nat} {nm : ByteArray} {l : List Int} (ha : St (a : Int)) (hn : nameB nm.data.toList = true) (hl : l.length ≤ 8) (hq : ∀ q ∈ l, isEx (kdN s q) = true) : NodeFit St s (En 11 l 0 nm a) :=
  ⟨own_name (by decide) hn rfl, kids11 (by show (l.map (kdN s)).length ≤ 8; rw [List.length_map]; exact hl) (fun k hk => by
    have hk' : k ∈ l.map (kdN s) := hk
    obtain ⟨q, hq', rfl⟩ := List.mem_map.1 hk'
    exact hq q hq'), ha, zero_ok⟩
theorem nodeOkV {a : Nat} {nm : ByteArray} (ha : St (a : Int)) (hn : nameB nm.data.toList = true) : NodeFit St s (En 4 [] 0 nm a) :=
  ⟨own_name (by decide) hn rfl, rfl, ha, zero_ok⟩
theorem op_small {lv : Nat} {t : Tk} {o : Nat} (h : opAt lv t = some o) (hlv : lv < 5) : 0 ≤ (o : Int) ∧ (o : Int) ≤ 9223372036854775807 := by
  have := opFrom_sees _ _ h
  have hr : opLast lv ≤ 16 ∧ opFirst lv ≤ opLast lv := by
    have : lv = 0 ∨ lv = 1 ∨ lv = 2 ∨ lv = 3 ∨ lv = 4 := by omega
    rcases this with rfl | rfl | rfl | rfl | rfl <;> decide
  omega
theorem op_range {lv : Nat} (hlv : lv < 5) {t : Tk} {o : Nat} (h : opAt lv t = some o) : numB 5 (o : Int) = true := by
  have := opFrom_sees _ _ h
  have hr : 1 ≤ opFirst lv ∧ opLast lv ≤ 16 ∧ opFirst lv ≤ opLast lv := by
    have : lv = 0 ∨ lv = 1 ∨ lv = 2 ∨ lv = 3 ∨ lv = 4 := by omega
    rcases this with rfl | rfl | rfl | rfl | rfl <;> decide
  unfold numB
  rw [if_neg (by omega), if_neg (by omega), if_pos rfl, decide_eq_true (by omega), decide_eq_true (by omega)]
  rfl
theorem sg_kind {t : Tk} (h : sg t ≠ 0) : t.kind ≠ 0 := fun e => h (by unfold sg sees; rw [e]; rfl)
theorem sg_name {t : Tk} (h : sg t = 8) : t.kind = 1 := by
  unfold sg at h
  repeat' split at h
  all_goals first | omega | assumption
theorem isEx_k {K : Int} (h : 1 ≤ K) (g : K ≤ 11) : isEx K = true := by unfold isEx; rw [decide_eq_true h, decide_eq_true g]; rfl
theorem rd_told (hL : IsTk L) (hSt : ∀ t ∈ L, St (t.place : Int)) : ∀ (n : Nat) (m : Md) (d : Nat) (s : PS) (v : Out), rd n m d s = some v → ∀ ps, ShPre St L m ps s → ShPost St L m s ps v
  | 0, _, _, _, _, h => by cases h
  | n + 1, .chain lv, d, s, v, h => by
    intro ps hp
    have ih := rd_told hL hSt n
    rw [rd] at h
    split at h
    · exact (ih _ _ _ _ h ps hp.2).from (.refl s) (fun _ acc e => by cases e)
    · rcases go_ok h with ⟨e, h1, rfl⟩ | ⟨p, s1, h1, h2⟩
      · exact ih _ _ _ _ h1 ps ⟨by have := hp.1; omega, hp.2⟩
      · have a : Got St L _ s ps p s1 := ih _ _ _ _ h1 ps ⟨by have := hp.1; omega, hp.2⟩
        obtain ⟨x, rfl⟩ := a.one (fun acc e => by cases e)
        exact (ih _ _ _ _ h2 ps ⟨by have := hp.1; omega, a.inv, a.ex x (List.mem_singleton.2 rfl)⟩).from a.ext (fun _ acc e => by cases e)
  | n + 1, .loop lv p, d, s, v, h => by
    intro ps hp
    obtain ⟨hlv, hI, hpx⟩ := hp
    have ih := rd_told hL hSt n
    rw [rd] at h
    cases ho : opAt lv s.tok with
    | none => rw [ho] at h; injection h with h; subst h; exact ⟨hI, by show 1 ≤ 8; omega, fun _ => ⟨p, rfl⟩, fun q hq => by rw [List.mem_singleton.1 hq]; exact hpx, .refl s⟩
    | some op =>
      rw [ho] at h
      have hin := hI.next hL (sees_kind' (opAt_sees ho))
      rcases go_ok h with ⟨e, h1, rfl⟩ | ⟨q, s1, h1, h2⟩
      · exact ih _ _ _ _ h1 (ps ++ [p]) ⟨by omega, hin⟩
      · have a : Got St L _ s.next (ps ++ [p]) q s1 := ih _ _ _ _ h1 (ps ++ [p]) ⟨by omega, hin⟩
        obtain ⟨x, rfl⟩ := a.one (fun acc e => by cases e)
        have hi : ShInv St L s1 (ps ++ [p, x]) := by have := a.inv; rw [List.append_assoc] at this; exact this
        have hE : Ext s s1 := Ext.trans .of_next a.ext
        have hp1 : isEx (kdN s1 p) = true := by rw [hE.kds hI (by simp)]; exact hpx
        have hl := ShInv.lay hi (x := En 5 [p, x] op ⟨#[]⟩ s.tok.place) rfl (nodeOk2 (hSt _ hI.one_mem) (.inl rfl) (op_range hlv ho) (op_small ho hlv) hp1 (a.ex x (List.mem_singleton.2 rfl))) (nat_at _)
        rcases go_ok h2 with ⟨e, h3, rfl⟩ | ⟨k, s2, h3, h4⟩
        · injection h3 with h3
          rw [show hd1 [x] = x from rfl] at h3
          rw [h3] at hl
          exact hl
        · injection h3 with h3
          rw [show hd1 [x] = x from rfl] at h3
          rw [h3] at hl
          split at h4
          · injection h4 with h4; subst h4; exact ShTold.post (v := .ok (k, s2)) hl rfl hE
          · have hl : LaidOk St L s1 ps _ k s2 := hl
            obtain ⟨y, rfl, hy⟩ := hl.root
            exact (ih _ _ _ _ h4 ps ⟨hlv, hl.inv, by rw [show kdN s2 (hd1 [y]) = kdN s2 y from rfl, hy]; rfl⟩).from (hE.trans hl.ext) (fun _ acc e => by cases e)
  | n + 1, .front, d, s, v, h => by
    intro ps hp
    have hp : ShInv St L s ps := hp
    have ih := rd_told hL hSt n
    rw [rd] at h
    split at h
    · rename_i g
      have hs : ShInv St L s.next ps := by
        rw [Bool.or_eq_true] at g
        rcases g with g | g
        · exact hp.next_is hL g
        · exact hp.next_is hL g
      split at h
      · injection h with h; subst h; exact hSt _ hp.one_mem
      · rcases go_ok h with ⟨e, h1, rfl⟩ | ⟨q, s1, h1, h2⟩
        · exact ih _ _ _ _ h1 ps hs
        · have a : Got St L _ s.next ps q s1 := ih _ _ _ _ h1 ps hs
          obtain ⟨x, rfl⟩ := a.one (fun acc e => by cases e)
          injection h2 with h2
          have hl := ShInv.lay a.inv (x := En (if s.is minus then 6 else 7) [x] 0 ⟨#[]⟩ s.tok.place) rfl (nodeOk1 (hSt _ hp.one_mem) (by split <;> omega) (a.ex x (List.mem_singleton.2 rfl))) (nat_at _)
          rw [show hd1 [x] = x from rfl] at h2
          rw [h2] at hl
          exact hl.post (by show isEx (if s.is minus then 6 else 7) = true; split <;> rfl) (Ext.trans .of_next a.ext)
    · exact (ih _ _ _ _ h ps hp).from (.refl s) (fun _ acc e => by cases e)
  | n + 1, .idx, d, s, v, h => by
    intro ps hp
    have ih := rd_told hL hSt n
    rw [rd] at h
    rcases go_ok h with ⟨e, h1, rfl⟩ | ⟨p, s1, h1, h2⟩
    · exact ih _ _ _ _ h1 ps hp
    · have a : Got St L _ s ps p s1 := ih _ _ _ _ h1 ps hp
      obtain ⟨x, rfl⟩ := a.one (fun acc e => by cases e)
      exact (ih _ _ _ _ h2 ps ⟨a.inv, a.ex x (List.mem_singleton.2 rfl)⟩).from a.ext (fun _ acc e => by cases e)
  | n + 1, .more p, d, s, v, h => by
    intro ps hp
    obtain ⟨hI, hpx⟩ := hp
    have ih := rd_told hL hSt n
    rw [rd] at h
    split at h
    · rename_i g
      rcases go_ok h with ⟨e, h1, rfl⟩ | ⟨q, s1, h1, h2⟩
      · exact ih _ _ _ _ h1 (ps ++ [p]) hI
      · have a : Got St L _ s (ps ++ [p]) q s1 := ih _ _ _ _ h1 (ps ++ [p]) hI
        obtain ⟨x, rfl⟩ := a.one (fun acc e => by cases e)
        have hi : ShInv St L s1 (ps ++ [p, x]) := by have := a.inv; rw [List.append_assoc] at this; exact this
        have hp1 : isEx (kdN s1 p) = true := by rw [a.ext.kds hI (by simp)]; exact hpx
        have hl := ShInv.lay hi (x := En 8 [p, x] 0 ⟨#[]⟩ s.tok.place) rfl (nodeOk2 (hSt _ hI.one_mem) (.inr rfl) rfl zero_ok hp1 (a.ex x (List.mem_singleton.2 rfl))) (nat_at _)
        rcases go_ok h2 with ⟨e, h3, rfl⟩ | ⟨k, s2, h3, h4⟩
        · injection h3 with h3
          rw [show hd1 [x] = x from rfl] at h3
          rw [h3] at hl
          exact hl
        · injection h3 with h3
          rw [show hd1 [x] = x from rfl] at h3
          rw [h3] at hl
          have hl : LaidOk St L s1 ps _ k s2 := hl
          obtain ⟨y, rfl, hy⟩ := hl.root
          exact (ih _ _ _ _ h4 ps ⟨hl.inv, by rw [show kdN s2 (hd1 [y]) = kdN s2 y from rfl, hy]; rfl⟩).from (a.ext.trans hl.ext) (fun _ acc e => by cases e)
    · injection h with h; subst h; exact ⟨hI, by show 1 ≤ 8; omega, fun _ => ⟨p, rfl⟩, fun q hq => by rw [List.mem_singleton.1 hq]; exact hpx, .refl s⟩
  | n + 1, .inner a b, d, s, v, h => by
    intro ps hp
    have hp : ShInv St L s ps := hp
    have ih := rd_told hL hSt n
    rw [rd] at h
    split at h
    · rename_i g
      have hs := hp.next_is hL g
      split at h
      · injection h with h; subst h; exact hSt _ hp.one_mem
      · rcases go_ok h with ⟨e, h1, rfl⟩ | ⟨q, s1, h1, h2⟩
        · exact ih _ _ _ _ h1 ps ⟨by omega, hs⟩
        · have a : Got St L _ s.next ps q s1 := ih _ _ _ _ h1 ps ⟨by omega, hs⟩
          split at h2
          · rename_i g2
            injection h2 with h2
            subst h2
            exact ⟨a.inv.next_is hL g2, a.few, fun _ => a.one (fun acc e => by cases e), a.ex, (Ext.trans .of_next a.ext).then_next⟩
          · injection h2 with h2; subst h2; exact hSt _ a.inv.one_mem
    · injection h with h; subst h; exact hSt _ hp.one_mem
  | n + 1, .call nm at_, d, s, v, h => by
    intro ps hp
    obtain ⟨hp, hnm, hat⟩ := hp
    have ih := rd_told hL hSt n
    rw [rd] at h
    split at h
    · rename_i g
      have hs := hp.next_is hL g
      split at h
      · injection h with h; subst h; exact hSt _ hp.one_mem
      · rcases go_ok h with ⟨e, h1, rfl⟩ | ⟨q, s1, h1, h2⟩
        · split at h1
          · cases h1
          · exact ih _ _ _ _ h1 ps ⟨inv_nil hs, by show 0 ≤ 8; omega, fun p hp => by cases hp⟩
        · have a' : ShInv St L s1 (ps ++ q) ∧ q.length ≤ 8 ∧ (∀ p ∈ q, isEx (kdN s1 p) = true) ∧ Ext s s1 := by
            split at h1
            · injection h1 with h1; injection h1 with h1; injection h1 with h3 h4; subst h3 h4; exact ⟨inv_nil hs, by show 0 ≤ 8; omega, (fun p hp => by cases hp), .of_next⟩
            · have a : Got St L _ s.next ps q s1 := ih _ _ _ _ h1 ps ⟨inv_nil hs, by show 0 ≤ 8; omega, fun p hp => by cases hp⟩
              exact ⟨a.inv, a.few, a.ex, Ext.trans .of_next a.ext⟩
          split at h2
          · rename_i g2
            injection h2 with h2
            have hl := ShInv.lay (a'.1.next_is hL g2) (x := En 11 q 0 nm at_) rfl (nodeOkN hat hnm a'.2.1 a'.2.2.1) (nat_at _)
            rw [h2] at hl
            exact hl.post rfl a'.2.2.2.then_next
          · injection h2 with h2; subst h2; exact hSt _ a'.1.one_mem
    · injection h with h; subst h; exact hSt _ hp.one_mem
  | n + 1, .args acc, d, s, v, h => by
    intro ps hp
    obtain ⟨hp, hac, hax⟩ := hp
    have ih := rd_told hL hSt n
    rw [rd] at h
    split at h
    · injection h with h; subst h; exact hSt _ hp.one_mem
    · rename_i h8
      rcases go_ok h with ⟨e, h1, rfl⟩ | ⟨p, s1, h1, h2⟩
      · exact ih _ _ _ _ h1 (ps ++ acc) ⟨by omega, hp⟩
      · have a : Got St L _ s (ps ++ acc) p s1 := ih _ _ _ _ h1 (ps ++ acc) ⟨by omega, hp⟩
        obtain ⟨x, rfl⟩ := a.one (fun acc e => by cases e)
        have hi : ShInv St L s1 (ps ++ (acc ++ [x])) := by have := a.inv; rw [List.append_assoc] at this; exact this
        have hlen : (acc ++ [x]).length ≤ 8 := by rw [List.length_append]; show acc.length + 1 ≤ 8; omega
        have hall : ∀ p ∈ acc ++ [x], isEx (kdN s1 p) = true := by
          intro p hpm
          rcases List.mem_append.1 hpm with hm | hm
          · rw [a.ext.kds hp (List.mem_append_right _ hm)]; exact hax p hm
          · exact a.ex p hm
        split at h2
        · rename_i g2
          exact (ih _ _ _ _ h2 ps ⟨hi.next_is hL g2, hlen, hall⟩).from a.ext.then_next (fun hh => absurd rfl (hh acc))
        · injection h2 with h2; subst h2
          exact ⟨hi, hlen, fun hh => absurd rfl (hh acc), hall, a.ext⟩
  | n + 1, .single, d, s, v, h => by
    intro ps hp
    have hp : ShInv St L s ps := hp
    have ih := rd_told hL hSt n
    rw [rd_single] at h
    have hnx : sg s.tok ≠ 0 → ShInv St L s.next ps := fun h0 => hp.next hL (sg_kind h0)
    have leaf : sg s.tok ≠ 0 → ∀ K N, (K = 1 ∨ K = 2 ∨ K = 3) → numB K N = true → (0 ≤ N ∧ N ≤ 9223372036854775807) → some (lay (En K [] N ⟨#[]⟩ s.tok.place) s.next) = some v → ShPost St L .single s ps v := by
      intro h0 K N hK hN hM hx
      injection hx with hx
      subst hx
      exact (ShInv.lay (inv_nil (hnx h0)) rfl (nodeOk0 (hSt _ hp.one_mem) hK hN hM) (nat_at _)).post (isEx_k (by show 1 ≤ K; omega) (by show K ≤ 11; omega)) .of_next
    have arnd : sg s.tok ≠ 0 → ∀ K, (K = 6 ∨ K = 7 ∨ K = 9 ∨ K = 10) → (Out.go (rd n (.inner lp rp) d s.next) fun q s1 => some (lay (En K [hd1 q] 0 ⟨#[]⟩ s.tok.place) s1)) = some v → ShPost St L .single s ps v := by
      intro h0 K hK hx
      rcases go_ok hx with ⟨e, h1, rfl⟩ | ⟨q, s1, h1, h2⟩
      · exact ih _ _ _ _ h1 ps (hnx h0)
      · have a : Got St L _ s.next ps q s1 := ih _ _ _ _ h1 ps (hnx h0)
        obtain ⟨x, rfl⟩ := a.one (fun acc e => by cases e)
        injection h2 with h2
        subst h2
        exact (ShInv.lay a.inv rfl (nodeOk1 (hSt _ hp.one_mem) hK (a.ex x (List.mem_singleton.2 rfl))) (nat_at _)).post (isEx_k (by show 1 ≤ K; omega) (by show K ≤ 11; omega)) (Ext.trans .of_next a.ext)
    split at h
    · exact (ih _ _ _ _ h ps hp).from (.refl s) (fun _ acc e => by cases e)
    · rename_i hg; exact leaf (by rw [hg]; decide) _ _ (by omega) rfl (by omega) h
    · rename_i hg; exact leaf (by rw [hg]; decide) _ _ (by omega) rfl (by omega) h
    · rename_i hg; exact leaf (by rw [hg]; decide) _ _ (by omega) rfl (by omega) h
    · rename_i hg; exact arnd (by rw [hg]; decide) _ (by omega) h
    · rename_i hg; exact arnd (by rw [hg]; decide) _ (by omega) h
    · rename_i hg; exact leaf (by rw [hg]; decide) _ _ (by omega) (by unfold numB; rw [if_pos rfl]; exact decide_eq_true (Int.natCast_nonneg _)) (by have := hL.num _ hp.one_mem; omega) h
    · rename_i hg
      have h0 : sg s.tok ≠ 0 := by rw [hg]; decide
      have hnm := hL.name _ hp.one_mem (sg_name hg)
      split at h
      · exact (ih _ _ _ _ h ps ⟨hnx h0, hnm, hSt _ hp.one_mem⟩).from .of_next (fun _ acc e => by cases e)
      · injection h with h
        subst h
        exact (ShInv.lay (inv_nil (hnx h0)) rfl (nodeOkV (hSt _ hp.one_mem) hnm) (nat_at _)).post rfl .of_next
    · injection h with h; subst h; exact hSt _ hp.one_mem
theorem inv_start {St : Int → Prop} {L : List Tk} (h0 : 0 < L.length) : ShInv St L ⟨L, [], []⟩ [] :=
  ⟨⟨0, h0, rfl⟩, List.Perm.refl _, (fun i hi => by simp at hi), rfl, (fun i hi => by simp at hi), (fun i hi => by simp at hi), (fun i hi => by simp at hi), (fun x hx => by simp at hx), (fun x hx => by simp at hx)⟩
/-- one root: a tree that is Right -/
theorem ShInv.right {p : Int} (hv : ShInv St L s [p]) : Rt s.l ∧ p = (s.l.length : Int) - 1 := by
  have hpm := hv.mem (List.mem_singleton.2 rfl)
  have hlen : 0 < s.l.length := by omega
  have hperm := hv.fo
  have hnd : (kidsOf s.l ++ [p]).Nodup := hperm.nodup_iff.2 (by unfold rng List.Nodup; rw [List.pairwise_map]; exact (List.nodup_range (n := s.l.length)).imp (fun h e => h (Int.ofNat.inj e)))
  have hcount : (kidsOf s.l ++ [p]).length = s.l.length := by rw [hperm.length_eq]; unfold rng; simp
  refine ⟨⟨⟨hlen, hv.ahead, ?_, ?_⟩, fun i hi => hv.fit i hi, hv.low _ (by omega)⟩, ?_⟩
  · rw [allK_all]; exact (List.nodup_append.1 hnd).1
  · rw [allK_all]
    rw [List.length_append] at hcount
    have : (kidsOf s.l).length + 1 = s.l.length := hcount
    omega
  · -- the last node is nobody's kid
    have hmem : ((s.l.length : Int) - 1) ∈ kidsOf s.l ++ [p] := hperm.symm.subset (mem_rng.2 ⟨by omega, by omega⟩)
    rcases List.mem_append.1 hmem with hm | hm
    · exfalso
      unfold kidsOf at hm
      obtain ⟨x, hx, hk⟩ := List.mem_flatMap.1 hm
      obtain ⟨i, hi, e⟩ := List.getElem_of_mem hx
      have en : nd s.l i = x := by unfold nd; rw [List.getD_eq_getElem?_getD, List.getElem?_eq_getElem hi, e]; rfl
      have := hv.ahead i hi ((s.l.length : Int) - 1) (by rw [en]; exact hk)
      omega
    · exact (List.mem_singleton.1 hm).symm
theorem perm_kids {l : List Nd} {ps : List Int} (h : (kidsOf l ++ ps).Perm (rng l.length)) : ∀ x ∈ l, x.kids.length ≤ l.length := by
  intro x hx
  have h1 : (kidsOf l ++ ps).length = l.length := by rw [h.length_eq]; unfold rng; simp
  have h2 : x.kids.length ≤ (kidsOf l).length := by
    unfold kidsOf
    obtain ⟨a, b, rfl⟩ := List.append_of_mem hx
    rw [List.flatMap_append, List.flatMap_cons, List.length_append, List.length_append]
    omega
  rw [List.length_append] at h1
  omega
/-- what is read of all tokens -/
theorem reads_told (hL : IsTk L) (h0 : 0 < L.length) {v : Out} (h : Reads (.chain 0) 0 ⟨L, [], []⟩ v) : match v with
    | .error f => ∃ t ∈ L, f.2 = t.place
    | .ok (ps, s') => Rt s'.l ∧ isEx (nd s'.l (s'.l.length - 1)).kind = true ∧ (∀ x ∈ s'.l, ∃ t ∈ L, x.at_ = (t.place : Int)) ∧ (∀ x ∈ s'.l, x.kids.length ≤ s'.l.length) ∧ s'.tok ∈ L ∧ (∀ x ∈ s'.l, 0 ≤ x.n ∧ x.n ≤ 9223372036854775807) ∧ ∃ p, ps = [p] := by
  obtain ⟨n, hn⟩ := h
  have hp := rd_told (St := fun z => ∃ t ∈ L, z = (t.place : Int)) hL (fun t ht => ⟨t, ht, rfl⟩) n _ _ _ _ hn [] ⟨by omega, inv_start h0⟩
  cases v with
  | error f =>
    obtain ⟨t, ht, e⟩ := hp
    exact ⟨t, ht, Int.ofNat.inj e⟩
  | ok x =>
    obtain ⟨l, s'⟩ := x
    have hp : Got _ L _ _ [] l s' := hp
    obtain ⟨p, rfl⟩ := hp.one (fun acc e => by cases e)
    have hv := hp.inv
    rw [List.nil_append] at hv
    obtain ⟨hR, hpe⟩ := hv.right
    have hx := hp.ex p (List.mem_singleton.2 rfl)
    unfold kdN at hx
    rw [hpe, show ((s'.l.length : Int) - 1).toNat = s'.l.length - 1 by omega] at hx
    exact ⟨hR, hx, hv.stand, perm_kids hv.fo, hv.one_mem, hv.nums, ⟨p, rfl⟩⟩
end Go.Proofs.YtagacfcpepoaoaaGreatDoor

namespace Go.Proofs.YtagacfcpepoaoaaGreatDoor
set_option linter.unusedVariables false

variable {St : Int → Prop} {L : List Tk} {s s1 s2 : PS} {ps : List Int}
theorem need_ok {b : List UInt8} {s : PS} {f : PS → Option Out} {v : Out} (h : need b s f = some v) : (s.is b = true ∧ f s.next = some v) ∨ (s.is b = false ∧ v = .error (8, s.tok.place)) := by
  unfold need at h
  split at h
  · rename_i g; exact .inl ⟨g, h⟩
  · rename_i g; injection h with h; exact .inr ⟨by simpa using g, h.symm⟩
theorem needName_ok {s : PS} {f : ByteArray → Nat → PS → Option Out} {v : Out} (h : needName s f = some v) : (s.tok.kind = 1 ∧ f ⟨s.tok.text.toArray⟩ s.tok.place s.next = some v) ∨ (s.tok.kind ≠ 1 ∧ v = .error (8, s.tok.place)) := by
  unfold needName at h
  split at h
  · rename_i g; exact .inl ⟨g, h⟩
  · rename_i g; injection h with h; exact .inr ⟨g, h.symm⟩
theorem needKind_ok {s : PS} {f : Nat → PS → Option Out} {v : Out} (h : needKind s f = some v) : (kindAt s.tok ≠ 0 ∧ f (kindAt s.tok) s.next = some v) ∨ (kindAt s.tok = 0 ∧ v = .error (8, s.tok.place)) := by
  unfold needKind at h
  split at h
  · rename_i g; injection h with h; exact .inr ⟨g, h.symm⟩
  · rename_i g; exact .inl ⟨g, h⟩
theorem kindAt_pos {t : Tk} (h : kindAt t ≠ 0) : t.kind ≠ 0 := fun e => h (by unfold kindAt sees; rw [e]; rfl)
theorem kindAt_le (t : Tk) : kindAt t ≤ 3 := by
  unfold kindAt
  repeat' split
  all_goals omega
theorem stAt_pos {t : Tk} (h : stAt t ≠ 0) : t.kind ≠ 0 := fun e => h (by unfold stAt sees; rw [e]; rfl)
/-- what is read: its roots are of these kinds -/
structure Gave (St : Int → Prop) (L : List Tk) (P : Int → Prop) (s : PS) (ps : List Int) (l : List Int) (s' : PS) : Prop where
  inv : ShInv St L s' (ps ++ l)
  kd : ∀ p ∈ l, P (kdN s' p)
  ext : Ext s s'
def PPost (St : Int → Prop) (L : List Tk) (P : Int → Prop) (n : Option Nat) (s : PS) (ps : List Int) (v : Out) : Prop := match v with
  | .error f => St (f.2 : Int)
  | .ok (l, s') => Gave St L P s ps l s' ∧ (∀ k, n = some k → l.length = k)
theorem ShTold.gave {P : Int → Prop} {x : Nd} {v : Out} {s0 : PS} (h : ShTold St L s ps x v) (hx : P x.kind) (hs : Ext s0 s) : PPost St L P (some 1) s0 ps v := by
  cases v with
  | error f => exact h
  | ok y =>
    obtain ⟨l, s'⟩ := y
    have h : LaidOk St L s ps x l s' := h
    obtain ⟨p, rfl, hk⟩ := h.root
    exact ⟨⟨h.inv, (fun q hq => by rw [List.mem_singleton.1 hq, hk]; exact hx), hs.trans h.ext⟩, fun k e => by cases e; rfl⟩
theorem PPost.from {P : Int → Prop} {n : Option Nat} {v : Out} {s0 : PS} (h : PPost St L P n s ps v) (hs : Ext s0 s) : PPost St L P n s0 ps v := by
  cases v with
  | error f => exact h
  | ok y =>
    obtain ⟨l, s'⟩ := y
    have h : Gave St L P s ps l s' ∧ _ := h
    exact ⟨⟨h.1.inv, h.1.kd, hs.trans h.1.ext⟩, h.2⟩
/-- the kinds of what each mode reads -/
def pmP : Pm → Int → Prop
  | .block => fun k => k = 23
  | .stmts _ _ => fun k => k = 23
  | .stmt => fun k => isSt k = true
  | .params _ => fun k => k = 24
  | .func => fun k => k = 25
  | .prog _ => fun k => k = 26
def pmN : Pm → Option Nat
  | .params _ => none
  | _ => some 1
def PPre (St : Int → Prop) (L : List Tk) (m : Pm) (ps : List Int) (s : PS) : Prop := match m with
  | .stmts acc a => ShInv St L s (ps ++ acc) ∧ (∀ p ∈ acc, isSt (kdN s p) = true) ∧ St (a : Int)
  | .params acc => ShInv St L s (ps ++ acc) ∧ (∀ p ∈ acc, kdN s p = 24) ∧ acc.length ≤ 8
  | .prog acc => ShInv St L s (ps ++ acc) ∧ (∀ p ∈ acc, kdN s p = 25) ∧ acc.length ≤ 200
  | _ => ShInv St L s ps
theorem one_of {l : List Int} (h : l.length = 1) : ∃ p, l = [p] := by
  match l, h with
  | [p], _ => exact ⟨p, rfl⟩
theorem all_kd {P : Int → Prop} {l : List Int} (h : ∀ p ∈ l, P (kdN s p)) : ∀ k ∈ l.map (kdN s), P k := by
  intro k hk
  obtain ⟨p, hp, rfl⟩ := List.mem_map.1 hk
  exact h p hp
theorem st_of {K : Int} (h : 12 ≤ K) (g : K ≤ 22) : isSt K = true := by unfold isSt; rw [decide_eq_true h, decide_eq_true g]; rfl
/-- nodes of statements -/
theorem fit1 {K : Int} {a : Nat} {q : Int} {nm : ByteArray} (ha : St (a : Int)) (hK : K = 12 ∨ K = 13) (hn : nameB nm.data.toList = true) (hq : isEx (kdN s q) = true) : NodeFit St s (En K [q] 0 nm a) :=
  ⟨own_name (by rcases hK with rfl | rfl <;> decide) hn (by rcases hK with rfl | rfl <;> rfl), kids1 (K := K) (by omega) rfl (fun k hk => by rw [List.mem_singleton.1 hk]; exact hq), ha, zero_ok⟩
theorem fit1p {K : Int} {a : Nat} {q : Int} (ha : St (a : Int)) (hK : K = 20 ∨ K = 21) (hq : isEx (kdN s q) = true) : NodeFit St s (En K [q] 0 ⟨#[]⟩ a) :=
  ⟨own_plain (by rcases hK with rfl | rfl <;> decide) (by rcases hK with rfl | rfl <;> rfl), kids1 (K := K) (by omega) rfl (fun k hk => by rw [List.mem_singleton.1 hk]; exact hq), ha, zero_ok⟩
theorem fit0 {K : Int} {a : Nat} (ha : St (a : Int)) (hK : K = 18 ∨ K = 19) : NodeFit St s (En K [] 0 ⟨#[]⟩ a) :=
  ⟨own_plain (by rcases hK with rfl | rfl <;> decide) (by rcases hK with rfl | rfl <;> rfl), by rcases hK with rfl | rfl <;> rfl, ha, zero_ok⟩
theorem fit14 {a : Nat} {p q : Int} {nm : ByteArray} (ha : St (a : Int)) (hn : nameB nm.data.toList = true) (hp : isEx (kdN s p) = true) (hq : isEx (kdN s q) = true) : NodeFit St s (En 14 [p, q] 0 nm a) :=
  ⟨own_name (by decide) hn rfl, by show (decide (2 = 2) && (decide (2 ≤ 2) && (isEx (kdN s p) && (isEx (kdN s q) && true)))) = true; rw [hp, hq]; rfl, ha, zero_ok⟩
theorem fit16 {a : Nat} {p q : Int} (ha : St (a : Int)) (hp : isEx (kdN s p) = true) (hq : kdN s q = 23) : NodeFit St s (En 16 [p, q] 0 ⟨#[]⟩ a) :=
  ⟨own_plain (by decide) rfl, by show (decide (1 ≤ 2) && (isEx (kdN s p) && true) && decide (2 = 2) && ((kdN s q == 23) && true && decide (1 ≤ 1))) = true; rw [hp, hq]; rfl, ha, zero_ok⟩
theorem fit15 {a : Nat} {p q : Int} (ha : St (a : Int)) (hp : isEx (kdN s p) = true) (hq : kdN s q = 23) : NodeFit St s (En 15 [p, q] 0 ⟨#[]⟩ a) :=
  ⟨own_plain (by decide) rfl, by show (decide (1 ≤ 2) && (isEx (kdN s p) && true) && decide (2 ≤ 2) && ((kdN s q == 23) && true && decide (1 ≤ 2))) = true; rw [hp, hq]; rfl, ha, zero_ok⟩
theorem fit15e {a : Nat} {p q r : Int} (ha : St (a : Int)) (hp : isEx (kdN s p) = true) (hq : kdN s q = 23) (hr : kdN s r = 23) : NodeFit St s (En 15 [p, q, r] 0 ⟨#[]⟩ a) :=
  ⟨own_plain (by decide) rfl, by show (decide (1 ≤ 3) && (isEx (kdN s p) && true) && decide (2 ≤ 3) && ((kdN s q == 23) && ((kdN s r == 23) && true) && decide (2 ≤ 2))) = true; rw [hp, hq, hr]; rfl, ha, zero_ok⟩
theorem fit17 {a : Nat} {p q r : Int} {nm : ByteArray} (ha : St (a : Int)) (hn : nameB nm.data.toList = true) (hp : isEx (kdN s p) = true) (hq : isEx (kdN s q) = true) (hr : kdN s r = 23) : NodeFit St s (En 17 [p, q, r] 0 nm a) :=
  ⟨own_name (by decide) hn rfl, by show (decide (2 ≤ 3) && (isEx (kdN s p) && (isEx (kdN s q) && true)) && decide (3 = 3) && ((kdN s r == 23) && true && decide (1 ≤ 1))) = true; rw [hp, hq, hr]; rfl, ha, zero_ok⟩
theorem fit22 {a : Nat} {p : Int} (ha : St (a : Int)) (hp : kdN s p = 11) : NodeFit St s (En 22 [p] 0 ⟨#[]⟩ a) :=
  ⟨own_plain (by decide) rfl, by show (decide (1 = 1) && decide (kdN s p = 11)) = true; rw [hp]; rfl, ha, zero_ok⟩
theorem fit23 {a : Nat} {l : List Int} (ha : St (a : Int)) (hl : ∀ p ∈ l, isSt (kdN s p) = true) : NodeFit St s (En 23 l 0 ⟨#[]⟩ a) :=
  ⟨own_plain (by decide) rfl, by show (l.map (kdN s)).all isSt = true; exact List.all_eq_true.2 (all_kd (P := fun k => isSt k = true) hl), ha, zero_ok⟩
theorem num_kind {t : Tk} (h : kindAt t ≠ 0) {K : Int} (hK : K = 24 ∨ K = 25) : numB K (kindAt t : Int) = true := by
  have h1 := kindAt_le t
  unfold numB
  rw [if_neg (by omega), if_neg (by omega), if_neg (by omega), if_pos hK, decide_eq_true (by omega), decide_eq_true (by omega)]
  rfl
theorem small_kind (t : Tk) : 0 ≤ (kindAt t : Int) ∧ (kindAt t : Int) ≤ 9223372036854775807 := by have := kindAt_le t; omega
theorem fit24 {a : Nat} {nm : ByteArray} {t : Tk} (ha : St (a : Int)) (hn : nameB nm.data.toList = true) (hk : kindAt t ≠ 0) : NodeFit St s (En 24 [] (kindAt t) nm a) :=
  ⟨own_name (by decide) hn (num_kind hk (.inl rfl)), rfl, ha, small_kind t⟩
theorem fit25 {a : Nat} {nm : ByteArray} {t : Tk} {l : List Int} {b : Int} (ha : St (a : Int)) (hn : nameB nm.data.toList = true) (hk : kindAt t ≠ 0) (hl : ∀ p ∈ l, kdN s p = 24) (hl8 : l.length ≤ 8) (hb : kdN s b = 23) : NodeFit St s (En 25 (l ++ [b]) (kindAt t) nm a) := by
  refine ⟨own_name (by decide) hn (num_kind hk (.inr rfl)), ?_, ha, small_kind t⟩
  show kidsB 25 ((l ++ [b]).map (kdN s)) = true
  have hlen : ((l ++ [b]).map (kdN s)).length = l.length + 1 := by simp
  have e1 : ((l ++ [b]).map (kdN s)).take (((l ++ [b]).map (kdN s)).length - 1) = l.map (kdN s) := by
    rw [hlen, Nat.add_sub_cancel, List.map_append, List.take_append_of_le_length (by simp), List.take_of_length_le (by simp)]
  have e2 : ((l ++ [b]).map (kdN s)).getD (((l ++ [b]).map (kdN s)).length - 1) 0 = kdN s b := by
    rw [hlen, Nat.add_sub_cancel, List.map_append, List.getD_eq_getElem?_getD, List.getElem?_append_right (by simp), List.length_map, Nat.sub_self]
    rfl
  unfold kidsB
  rw [if_neg (by omega), if_neg (by omega), if_neg (by omega), if_neg (by omega), if_neg (by omega), if_neg (by omega), if_neg (by omega), if_neg (by omega), if_pos rfl, e1, e2, hb, hlen]
  unfold alls
  rw [List.all_eq_true.2 (fun k hk => by rw [all_kd (P := fun k => k = 24) hl k hk]; rfl), List.length_map, decide_eq_true hl8, decide_eq_true (by omega : 1 ≤ l.length + 1)]
  rfl
theorem fit26 {l : List Int} (h0 : St 0) (hl : ∀ p ∈ l, kdN s p = 25) (hl2 : l.length ≤ 200) : NodeFit St s (En 26 l 0 ⟨#[]⟩ ((0 : Nat) : Int)) := by
  refine ⟨own_plain (by decide) rfl, ?_, h0, zero_ok⟩
  show kidsB 26 (l.map (kdN s)) = true
  unfold kidsB
  rw [if_neg (by omega), if_neg (by omega), if_neg (by omega), if_neg (by omega), if_neg (by omega), if_neg (by omega), if_neg (by omega), if_neg (by omega), if_neg (by omega), if_pos rfl]
  unfold alls
  rw [List.all_eq_true.2 (fun k hk => by rw [all_kd (P := fun k => k = 25) hl k hk]; rfl), List.length_map, decide_eq_true hl2]
  rfl
/-- a call's node is one -/
theorem rd_call (hL : IsTk L) (hSt : ∀ t ∈ L, St (t.place : Int)) {n d : Nat} {nm : ByteArray} {a : Nat} {p : List Int} (h : rd n (.call nm a) d s = some (.ok (p, s1))) (qs : List Int) (hm : ShPre St L (.call nm a) qs s) : ∃ x, p = [x] ∧ kdN s1 x = 11 ∧ ShInv St L s1 (qs ++ [x]) ∧ Ext s s1 := by
  have g : Got St L _ s qs p s1 := rd_told hL hSt n _ _ _ _ h qs hm
  obtain ⟨x, rfl⟩ := g.one (fun acc e => by cases e)
  refine ⟨x, rfl, ?_, g.inv, g.ext⟩
  cases n with
  | zero => cases h
  | succ n =>
    rw [rd] at h
    split at h
    · split at h
      · cases h
      · rcases go_ok h with ⟨e, _, h2⟩ | ⟨q, s2, _, h2⟩
        · cases h2
        · split at h2
          · injection h2 with h2
            unfold lay at h2
            split at h2
            · cases h2
            · injection h2 with h2
              injection h2 with h3 h4
              injection h3 with h3 _
              subst h3 h4
              show (nd (s2.next.l ++ [_]) ((s2.next.l.length : Int)).toNat).kind = 11
              rw [Int.toNat_natCast, snd_last]
              rfl
          · cases h2
    · cases h
theorem params_len : ∀ (n : Nat) (acc : List Int) (d : Nat) (s : PS) (l : List Int) (s' : PS), acc.length ≤ 8 → prd n (.params acc) d s = some (.ok (l, s')) → l.length ≤ 8
  | 0, _, _, _, _, _, _, h => by cases h
  | n + 1, acc, d, s, l, s', ha, h => by
    rw [prd] at h
    rcases needName_ok h with ⟨_, h⟩ | ⟨_, h⟩
    · split at h
      · cases h
      · rename_i g8
        rcases needKind_ok h with ⟨_, h⟩ | ⟨_, h⟩
        · rcases go_ok h with ⟨e, _, h2⟩ | ⟨q, s2, _, h2⟩
          · cases h2
          · have hlen : (acc ++ [hd1 q]).length ≤ 8 := by rw [List.length_append]; show acc.length + 1 ≤ 8; omega
            split at h2
            · exact params_len n _ _ _ _ _ hlen h2
            · rcases need_ok h2 with ⟨_, h3⟩ | ⟨_, h3⟩
              · injection h3 with h3
                injection h3 with h3
                injection h3 with h3 _
                subst h3
                exact hlen
              · cases h3
        · cases h
    · cases h
/-- one step behind the other -/
theorem do_need (hL : IsTk L) (hSt : ∀ t ∈ L, St (t.place : Int)) {b : List UInt8} {f : PS → Option Out} {v : Out} {P : Int → Prop} {n : Option Nat} {s0 : PS} {qs : List Int} (hI : ShInv St L s (ps ++ qs)) (h : need b s f = some v)
    (k : ShInv St L s.next (ps ++ qs) → s.is b = true → f s.next = some v → PPost St L P n s0 ps v) : PPost St L P n s0 ps v := by
  rcases need_ok h with ⟨h1, h2⟩ | ⟨_, rfl⟩
  · exact k (hI.next_is hL h1) h1 h2
  · exact hSt _ hI.one_mem
theorem do_name (hL : IsTk L) (hSt : ∀ t ∈ L, St (t.place : Int)) {f : ByteArray → Nat → PS → Option Out} {v : Out} {P : Int → Prop} {n : Option Nat} {s0 : PS} {qs : List Int} (hI : ShInv St L s (ps ++ qs)) (h : needName s f = some v)
    (k : ∀ nm a, ShInv St L s.next (ps ++ qs) → nameB nm.data.toList = true → St ((a : Nat) : Int) → f nm a s.next = some v → PPost St L P n s0 ps v) : PPost St L P n s0 ps v := by
  rcases needName_ok h with ⟨h1, h2⟩ | ⟨_, rfl⟩
  · exact k _ _ (hI.next hL (by omega)) (hL.name _ hI.one_mem h1) (hSt _ hI.one_mem) h2
  · exact hSt _ hI.one_mem
theorem do_kind (hL : IsTk L) (hSt : ∀ t ∈ L, St (t.place : Int)) {f : Nat → PS → Option Out} {v : Out} {P : Int → Prop} {n : Option Nat} {s0 : PS} {qs : List Int} (hI : ShInv St L s (ps ++ qs)) (h : needKind s f = some v)
    (k : ShInv St L s.next (ps ++ qs) → kindAt s.tok ≠ 0 → f (kindAt s.tok) s.next = some v → PPost St L P n s0 ps v) : PPost St L P n s0 ps v := by
  rcases needKind_ok h with ⟨h1, h2⟩ | ⟨_, rfl⟩
  · exact k (hI.next hL (kindAt_pos h1)) h1 h2
  · exact hSt _ hI.one_mem
theorem do_rd (hL : IsTk L) (hSt : ∀ t ∈ L, St (t.place : Int)) {m : Md} {N d : Nat} {f : List Int → PS → Option Out} {v : Out} {P : Int → Prop} {n : Option Nat} {s0 : PS} {qs : List Int} (hm : ShPre St L m (ps ++ qs) s) (hn : ∀ acc, m ≠ .args acc) (h : Out.go (rd N m d s) f = some v)
    (k : ∀ a s1, ShInv St L s1 (ps ++ (qs ++ [a])) → isEx (kdN s1 a) = true → Ext s s1 → f [a] s1 = some v → PPost St L P n s0 ps v) : PPost St L P n s0 ps v := by
  rcases go_ok h with ⟨e, h1, rfl⟩ | ⟨p, s1, h1, h2⟩
  · exact rd_told hL hSt N _ _ _ _ h1 (ps ++ qs) hm
  · have a : Got St L _ s (ps ++ qs) p s1 := rd_told hL hSt N _ _ _ _ h1 (ps ++ qs) hm
    obtain ⟨x, rfl⟩ := a.one hn
    exact k x s1 (by have := a.inv; rw [List.append_assoc] at this; exact this) (a.ex x (List.mem_singleton.2 rfl)) a.ext h2
theorem do_ex (hL : IsTk L) (hSt : ∀ t ∈ L, St (t.place : Int)) {N d : Nat} {f : Int → PS → Option Out} {v : Out} {P : Int → Prop} {n : Option Nat} {s0 : PS} {qs : List Int} (hI : ShInv St L s (ps ++ qs)) (h : needEx N d s f = some v)
    (k : ∀ a s1, ShInv St L s1 (ps ++ (qs ++ [a])) → isEx (kdN s1 a) = true → Ext s s1 → f a s1 = some v → PPost St L P n s0 ps v) : PPost St L P n s0 ps v :=
  do_rd hL hSt (m := .chain 0) ⟨by omega, hI⟩ (fun acc e => by cases e) h k
/-- what is read by a mode with one root -/
def Told1 (St : Int → Prop) (L : List Tk) (N : Nat) (m : Pm) : Prop := ∀ d s v, prd N m d s = some v → ∀ ps, ShInv St L s ps → PPost St L (pmP m) (some 1) s ps v
theorem do_prd {m : Pm} {N d : Nat} (ih : Told1 St L N m) {f : List Int → PS → Option Out} {v : Out} {P : Int → Prop} {n : Option Nat} {s0 : PS} {qs : List Int} (hI : ShInv St L s (ps ++ qs)) (h : Out.go (prd N m d s) f = some v)
    (k : ∀ a s1, ShInv St L s1 (ps ++ (qs ++ [a])) → pmP m (kdN s1 a) → Ext s s1 → f [a] s1 = some v → PPost St L P n s0 ps v) : PPost St L P n s0 ps v := by
  rcases go_ok h with ⟨e, h1, rfl⟩ | ⟨p, s1, h1, h2⟩
  · exact ih _ _ _ h1 (ps ++ qs) hI
  · have a : Gave St L (pmP m) s (ps ++ qs) p s1 ∧ _ := ih _ _ _ h1 (ps ++ qs) hI
    obtain ⟨x, rfl⟩ := one_of (a.2 1 rfl)
    exact k x s1 (by have := a.1.inv; rw [List.append_assoc] at this; exact this) (a.1.kd x (List.mem_singleton.2 rfl)) a.1.ext h2
theorem prd_told (hL : IsTk L) (hSt : ∀ t ∈ L, St (t.place : Int)) (h00 : St 0) : ∀ (n : Nat) (m : Pm) (d : Nat) (s : PS) (v : Out), prd n m d s = some v → ∀ ps, PPre St L m ps s → PPost St L (pmP m) (pmN m) s ps v
  | 0, _, _, _, _, h => by cases h
  | n + 1, .block, d, s, v, h => by
    intro ps hp
    have hp : ShInv St L s ps := hp
    rw [prd] at h
    refine do_need hL hSt (inv_nil hp) h fun hI hb h => ?_
    split at h
    · injection h with h; subst h; exact hSt _ hp.one_mem
    · exact (prd_told hL hSt h00 n (.stmts [] s.tok.place) _ _ _ h ps ⟨hI, (fun p hp => by cases hp), hSt _ hp.one_mem⟩).from .of_next
  | n + 1, .stmts acc a, d, s, v, h => by
    intro ps hp
    obtain ⟨hp, hac, ha⟩ := hp
    rw [prd] at h
    split at h
    · rename_i g
      injection h with h
      subst h
      exact (ShInv.lay (hp.next_is hL g) rfl (fit23 ha hac) (nat_at _)).gave rfl .of_next
    · refine do_prd (m := .stmt) (fun d s v h ps hI => prd_told hL hSt h00 n .stmt d s v h ps hI) hp h fun x s1 hI hx hE h => ?_
      refine (prd_told hL hSt h00 n (.stmts (acc ++ [x]) a) _ _ _ h ps ⟨hI, ?_, ha⟩).from hE
      intro p hpm
      rcases List.mem_append.1 hpm with hm | hm
      · rw [hE.kds hp (List.mem_append_right _ hm)]; exact hac p hm
      · rw [List.mem_singleton.1 hm]; exact hx
  | n + 1, .stmt, d, s, v, h => by
    intro ps hp
    have hp : ShInv St L s ps := hp
    have hat := hSt _ hp.one_mem
    have hB : Told1 St L n .block := fun d s v h ps hI => prd_told hL hSt h00 n .block d s v h ps hI
    have hnx : stAt s.tok ≠ 0 → ShInv St L s.next (ps ++ []) := fun h0 => inv_nil (hp.next hL (stAt_pos h0))
    rw [prd] at h
    split at h
    · rename_i hg
      refine do_name hL hSt (hnx (by rw [hg]; decide)) h fun nm a hI hnm ha h => ?_
      refine do_need hL hSt hI h fun hI _ h => ?_
      refine do_ex hL hSt hI h fun x s1 hI hx hE h => ?_
      refine do_need hL hSt hI h fun hI _ h => ?_
      injection h with h; subst h
      exact (ShInv.lay hI rfl (fit1 ha (.inl rfl) hnm hx) (nat_at _)).gave rfl ((Ext.of_next.trans (Ext.of_next.trans Ext.of_next)).trans hE).then_next
    · rename_i hg
      refine do_name hL hSt (hnx (by rw [hg]; decide)) h fun nm a hI hnm ha h => ?_
      refine do_need hL hSt hI h fun hI _ h => ?_
      refine do_ex hL hSt hI h fun x s1 hI hx hE h => ?_
      refine do_need hL hSt hI h fun hI1 _ h => ?_
      refine do_ex hL hSt hI1 h fun y s2 hI2 hy hE2 h => ?_
      refine do_prd hB hI2 h fun z s3 hI3 hz hE3 h => ?_
      injection h with h; subst h
      have hx2 : isEx (kdN s2 x) = true := by rw [hE2.kds hI1 (by simp)]; exact hx
      have hx3 : isEx (kdN s3 x) = true := by rw [hE3.kds hI2 (by simp)]; exact hx2
      have hy3 : isEx (kdN s3 y) = true := by rw [hE3.kds hI2 (by simp)]; exact hy
      exact (ShInv.lay hI3 rfl (fit17 ha hnm hx3 hy3 hz) (nat_at _)).gave rfl ((((Ext.of_next.trans (Ext.of_next.trans Ext.of_next)).trans hE).then_next.trans hE2).trans hE3)
    · rename_i hg
      refine do_need hL hSt (hnx (by rw [hg]; decide)) h fun hI _ h => ?_
      injection h with h; subst h
      exact (ShInv.lay hI rfl (fit0 hat (.inl rfl)) (nat_at _)).gave rfl (Ext.of_next.trans Ext.of_next)
    · rename_i hg
      refine do_need hL hSt (hnx (by rw [hg]; decide)) h fun hI _ h => ?_
      injection h with h; subst h
      exact (ShInv.lay hI rfl (fit0 hat (.inr rfl)) (nat_at _)).gave rfl (Ext.of_next.trans Ext.of_next)
    · rename_i hg
      refine do_ex hL hSt (hnx (by rw [hg]; decide)) h fun x s1 hI hx hE h => ?_
      refine do_need hL hSt hI h fun hI _ h => ?_
      injection h with h; subst h
      exact (ShInv.lay hI rfl (fit1p hat (.inl rfl) hx) (nat_at _)).gave rfl (Ext.of_next.trans hE).then_next
    · rename_i hg
      refine do_ex hL hSt (hnx (by rw [hg]; decide)) h fun x s1 hI hx hE h => ?_
      refine do_need hL hSt hI h fun hI _ h => ?_
      injection h with h; subst h
      exact (ShInv.lay hI rfl (fit1p hat (.inr rfl) hx) (nat_at _)).gave rfl (Ext.of_next.trans hE).then_next
    · rename_i hg
      refine do_ex hL hSt (hnx (by rw [hg]; decide)) h fun x s1 hI hx hE h => ?_
      refine do_prd hB hI h fun z s2 hI2 hz hE2 h => ?_
      injection h with h; subst h
      have hx2 : isEx (kdN s2 x) = true := by rw [hE2.kds hI (by simp)]; exact hx
      exact (ShInv.lay hI2 rfl (fit16 hat hx2 hz) (nat_at _)).gave rfl ((Ext.of_next.trans hE).trans hE2)
    · rename_i hg
      refine do_ex hL hSt (hnx (by rw [hg]; decide)) h fun x s1 hI hx hE h => ?_
      refine do_prd hB hI h fun z s2 hI2 hz hE2 h => ?_
      have hx2 : isEx (kdN s2 x) = true := by rw [hE2.kds hI (by simp)]; exact hx
      split at h
      · rename_i g2
        refine do_prd hB (hI2.next_is hL g2) h fun y s3 hI3 hy hE3 h => ?_
        injection h with h; subst h
        have hx3 : isEx (kdN s3 x) = true := by rw [hE3.kds (hI2.next_is hL g2) (by simp)]; exact hx2
        have hz3 : kdN s3 z = 23 := by rw [hE3.kds (hI2.next_is hL g2) (by simp)]; exact hz
        exact (ShInv.lay hI3 rfl (fit15e hat hx3 hz3 hy) (nat_at _)).gave rfl (((Ext.of_next.trans hE).trans hE2).then_next.trans hE3)
      · injection h with h; subst h
        exact (ShInv.lay hI2 rfl (fit15 hat hx2 hz) (nat_at _)).gave rfl ((Ext.of_next.trans hE).trans hE2)
    · refine do_name hL hSt (inv_nil hp) h fun nm a hI hnm ha h => ?_
      split at h
      · rename_i g
        rcases go_ok h with ⟨e, h1, rfl⟩ | ⟨p, s1, h1, h2⟩
        · exact rd_told hL hSt n _ _ _ _ h1 (ps ++ []) ⟨hI, hnm, ha⟩
        · have g1 := rd_call hL hSt h1 (ps ++ []) ⟨hI, hnm, ha⟩
          obtain ⟨x, rfl, hx, hI1, hE⟩ := g1
          have hI1' : ShInv St L s1 (ps ++ [x]) := by rw [List.append_nil] at hI1; exact hI1
          refine do_need hL hSt hI1' h2 fun hI2 _ h => ?_
          injection h with h; subst h
          exact (ShInv.lay hI2 rfl (fit22 ha hx) (nat_at _)).gave rfl (Ext.of_next.trans hE).then_next
      · split at h
        · rename_i g2
          have hat2 := hSt _ hI.one_mem
          refine do_rd hL hSt (m := .inner lb rb) hI (fun acc e => by cases e) h fun x s1 hI1 hx hE h => ?_
          refine do_need hL hSt hI1 h fun hI2 _ h => ?_
          refine do_ex hL hSt hI2 h fun y s2 hI3 hy hE2 h => ?_
          refine do_need hL hSt hI3 h fun hI4 _ h => ?_
          injection h with h; subst h
          have hx2 : isEx (kdN s2 x) = true := by rw [hE2.kds hI2 (by simp)]; exact hx
          exact (ShInv.lay hI4 rfl (fit14 hat2 hnm hx2 hy) (nat_at _)).gave rfl (((Ext.of_next.trans hE).then_next).trans hE2).then_next
        · refine do_need hL hSt hI h fun hI1 _ h => ?_
          refine do_ex hL hSt hI1 h fun x s1 hI2 hx hE h => ?_
          refine do_need hL hSt hI2 h fun hI3 _ h => ?_
          injection h with h; subst h
          exact (ShInv.lay hI3 rfl (fit1 ha (.inr rfl) hnm hx) (nat_at _)).gave rfl ((Ext.of_next.trans Ext.of_next).trans hE).then_next
  | n + 1, .params acc, d, s, v, h => by
    intro ps hp
    obtain ⟨hp, hac, hl8⟩ := hp
    rw [prd] at h
    refine do_name hL hSt hp h fun nm a hI hnm ha h => ?_
    split at h
    · injection h with h; subst h; exact ha
    · rename_i g8
      refine do_kind hL hSt hI h fun hI1 hk h => ?_
      have hI1' : ShInv St L s.next.next ((ps ++ acc) ++ []) := inv_nil hI1
      have hl := ShInv.lay hI1' (x := En 24 [] (kindAt s.next.tok) nm a) rfl (fit24 ha hnm hk) (nat_at _)
      rcases go_ok h with ⟨e, h3, rfl⟩ | ⟨q, s2, h3, h4⟩
      · injection h3 with h3
        rw [h3] at hl
        exact hl
      · injection h3 with h3
        rw [h3] at hl
        have hl : LaidOk St L _ (ps ++ acc) _ q s2 := hl
        obtain ⟨x, rfl, hx⟩ := hl.root
        have hI2 : ShInv St L s2 (ps ++ (acc ++ [x])) := by have := hl.inv; rw [List.append_assoc] at this; exact this
        have hE : Ext s s2 := (Ext.of_next.trans Ext.of_next).trans hl.ext
        have hall : ∀ p ∈ acc ++ [x], kdN s2 p = 24 := by
          intro p hpm
          rcases List.mem_append.1 hpm with hm | hm
          · rw [hE.kds hp (List.mem_append_right _ hm)]; exact hac p hm
          · rw [List.mem_singleton.1 hm]; exact hx
        split at h4
        · rename_i g
          exact (prd_told hL hSt h00 n (.params (acc ++ [x])) _ _ _ h4 ps ⟨hI2.next_is hL g, hall, by rw [List.length_append]; show acc.length + 1 ≤ 8; omega⟩).from hE.then_next
        · refine do_need hL hSt hI2 h4 fun hI3 _ h => ?_
          injection h with h; subst h
          exact ⟨⟨hI3, hall, hE.then_next⟩, fun k e => by cases e⟩
  | n + 1, .func, d, s, v, h => by
    intro ps hp
    have hp : ShInv St L s ps := hp
    have hB : Told1 St L n .block := fun d s v h ps hI => prd_told hL hSt h00 n .block d s v h ps hI
    rw [prd] at h
    refine do_name hL hSt (inv_nil hp) h fun nm a hI hnm ha h => ?_
    refine do_need hL hSt hI h fun hI1 _ h => ?_
    have hmid : ∀ o, (if s.next.next.is rp then some (.ok ([], s.next.next.next)) else prd n (.params []) d s.next.next) = some o → PPost St L (fun k => k = 24) none s ps o ∧ ∀ l s3, o = .ok (l, s3) → l.length ≤ 8 := by
      intro o ho
      split at ho
      · rename_i g
        injection ho with ho
        subst ho
        exact ⟨⟨⟨hI1.next_is hL g, (fun p hp => by cases hp), (Ext.of_next.trans Ext.of_next).then_next⟩, fun k e => by cases e⟩, fun l s3 e => by injection e with e; injection e with e1 _; subst e1; exact Nat.zero_le _⟩
      · refine ⟨(prd_told hL hSt h00 n (.params []) _ _ _ ho ps ⟨hI1, (fun p hp => by cases hp), Nat.zero_le _⟩).from (Ext.of_next.trans Ext.of_next), fun l s3 e => ?_⟩
        subst e
        exact params_len n [] d _ l s3 (Nat.zero_le _) ho
    rcases go_ok h with ⟨e, h1, rfl⟩ | ⟨l, s3, h1, h2⟩
    · exact (hmid _ h1).1
    · obtain ⟨hg, hlen⟩ := hmid _ h1
      have hg : Gave St L (fun k => k = 24) s ps l s3 ∧ _ := hg
      refine do_kind hL hSt hg.1.inv h2 fun hI3 hk h => ?_
      refine do_prd hB hI3 h fun b s4 hI4 hb hE4 h => ?_
      injection h with h; subst h
      have hall : ∀ p ∈ l, kdN s4 p = 24 := fun p hpm => by
        rw [hE4.kds hI3 (List.mem_append_right _ hpm)]
        exact hg.1.kd p hpm
      exact (ShInv.lay hI4 rfl (fit25 ha hnm hk hall (hlen l s3 rfl) hb) (nat_at _)).gave rfl (hg.1.ext.then_next.trans hE4)
  | n + 1, .prog acc, d, s, v, h => by
    intro ps hp
    obtain ⟨hp, hac, hl2⟩ := hp
    rw [prd] at h
    split at h
    · injection h with h
      subst h
      exact (ShInv.lay hp rfl (fit26 h00 hac hl2) (nat_at 0)).gave rfl (.refl s)
    · refine do_need hL hSt hp h fun hI _ h => ?_
      split at h
      · injection h with h; subst h; exact hSt _ hp.one_mem
      · rename_i g2
        refine do_prd (m := .func) (fun d s v h ps hI => prd_told hL hSt h00 n .func d s v h ps hI) hI h fun x s1 hI1 hx hE h => ?_
        refine (prd_told hL hSt h00 n (.prog (acc ++ [x])) _ _ _ h ps ⟨hI1, ?_, by rw [List.length_append]; show acc.length + 1 ≤ 200; omega⟩).from (Ext.of_next.trans hE)
        intro p hpm
        rcases List.mem_append.1 hpm with hm | hm
        · rw [hE.kds hI (List.mem_append_right _ hm)]; exact hac p hm
        · rw [List.mem_singleton.1 hm]; exact hx
/-- what is read of all tokens -/
theorem preads_told (hL : IsTk L) (h0 : 0 < L.length) {v : Out} (h : PReads (.prog []) 0 ⟨L, [], []⟩ v) : match v with
    | .error f => (∃ t ∈ L, f.2 = t.place) ∨ f.2 = 0
    | .ok (_, s') => Rt s'.l ∧ (nd s'.l (s'.l.length - 1)).kind = 26 ∧ (∀ x ∈ s'.l, (∃ t ∈ L, x.at_ = (t.place : Int)) ∨ x.at_ = 0) ∧ (∀ x ∈ s'.l, x.kids.length ≤ s'.l.length) ∧ ∀ x ∈ s'.l, 0 ≤ x.n ∧ x.n ≤ 9223372036854775807 := by
  obtain ⟨n, hn⟩ := h
  have hp := prd_told (St := fun z => (∃ t ∈ L, z = (t.place : Int)) ∨ z = 0) hL (fun t ht => .inl ⟨t, ht, rfl⟩) (.inr rfl) n _ _ _ _ hn [] ⟨inv_start h0, (fun p hp => by cases hp), Nat.zero_le _⟩
  cases v with
  | error f =>
    rcases hp with ⟨t, ht, e⟩ | e
    · exact .inl ⟨t, ht, Int.ofNat.inj e⟩
    · exact .inr (by omega)
  | ok x =>
    obtain ⟨l, s'⟩ := x
    have hp : Gave _ L _ _ [] l s' ∧ _ := hp
    obtain ⟨p, rfl⟩ := one_of (hp.2 1 rfl)
    have hv := hp.1.inv
    rw [List.nil_append] at hv
    obtain ⟨hR, hpe⟩ := hv.right
    have hx : kdN s' p = 26 := hp.1.kd p (List.mem_singleton.2 rfl)
    unfold kdN at hx
    rw [hpe, show ((s'.l.length : Int) - 1).toNat = s'.l.length - 1 by omega] at hx
    exact ⟨hR, hx, hv.stand, perm_kids hv.fo, hv.nums⟩
end Go.Proofs.YtagacfcpepoaoaaGreatDoor

namespace Go.Proofs.YtagacfcpepoaoaaGreatDoor
set_option linter.unusedVariables false

/-- nodes and tokens together, the tokens, and whether heights are as many as nodes -/
structure Lft (s s' : PS) (k : Nat) : Prop where
  all : s'.l.length + s'.r.length + k ≤ s.l.length + s.r.length
  toks : s'.r.length ≤ s.r.length
  hts : s.h.length = s.l.length → s'.h.length = s'.l.length
variable {s s0 s1 : PS} {v : Out} {b : List UInt8} {k : Nat}
theorem Lft.refl (s : PS) : Lft s s 0 := ⟨Nat.le_refl _, Nat.le_refl _, id⟩
theorem Lft.trans {s2 : PS} {j : Nat} (h : Lft s s1 k) (g : Lft s1 s2 j) : Lft s s2 (k + j) := ⟨by have := h.all; have := g.all; omega, by have := h.toks; have := g.toks; omega, fun e => g.hts (h.hts e)⟩
theorem Lft.next (h : Lft s0 s k) (hk : s.tok.kind ≠ 0) : Lft s0 s.next (k + 1) := by
  have h1 := slack_kind hk
  have e1 : s.next.l = s.l := rfl
  have e2 : s.next.h = s.h := rfl
  exact ⟨by have := h.all; rw [e1]; omega, by have := h.toks; omega, by rw [e1, e2]; exact h.hts⟩
def PLeft (s : PS) (v : Out) : Prop := ∀ l s', v = .ok (l, s') → Lft s s' 0
theorem lay_left {x : Nd} {l : List Int} {s' : PS} (h : Lft s0 s (k + 1)) (g : lay x s = .ok (l, s')) : Lft s0 s' k := by
  obtain ⟨a, b, c, _⟩ := lay_slack g
  exact ⟨by have := h.all; rw [b]; omega, by have := h.toks; rw [b]; omega, fun e => c (h.hts e)⟩
theorem left_lay {x : Nd} (h : Lft s0 s (k + 1)) (g : some (lay x s) = some v) : PLeft s0 v := by
  injection g with g
  intro l s' e
  rw [e] at g
  have := lay_left h g
  exact ⟨by have := this.all; omega, this.toks, this.hts⟩
theorem left_need {f : PS → Option Out} (h0 : Lft s0 s k) (h : need b s f = some v) (g : Lft s0 s.next (k + 1) → f s.next = some v → PLeft s0 v) : PLeft s0 v := by
  rcases need_ok h with ⟨h1, h2⟩ | ⟨_, rfl⟩
  · exact g (h0.next (sees_nz h1)) h2
  · intro l s' e; cases e
theorem left_name {f : ByteArray → Nat → PS → Option Out} (h0 : Lft s0 s k) (h : needName s f = some v) (g : ∀ nm a, Lft s0 s.next (k + 1) → f nm a s.next = some v → PLeft s0 v) : PLeft s0 v := by
  rcases needName_ok h with ⟨h1, h2⟩ | ⟨_, rfl⟩
  · exact g _ _ (h0.next (by omega)) h2
  · intro l s' e; cases e
theorem left_kind {f : Nat → PS → Option Out} (h0 : Lft s0 s k) (h : needKind s f = some v) (g : Lft s0 s.next (k + 1) → f (kindAt s.tok) s.next = some v → PLeft s0 v) : PLeft s0 v := by
  rcases needKind_ok h with ⟨h1, h2⟩ | ⟨_, rfl⟩
  · exact g (h0.next (kindAt_pos h1)) h2
  · intro l s' e; cases e
theorem left_rd {m : Md} {n d : Nat} {f : List Int → PS → Option Out} (h0 : Lft s0 s k) (h : Out.go (rd n m d s) f = some v) (g : ∀ p s1, Lft s0 s1 k → f p s1 = some v → PLeft s0 v) : PLeft s0 v := by
  rcases go_ok h with ⟨e, h1, rfl⟩ | ⟨p, s1, h1, h2⟩
  · intro l s' e; cases e
  · obtain ⟨a, b, c⟩ := rd_slack n m d s _ h1 p s1 rfl
    exact g p s1 (by have := h0.trans (k := k) (j := 0) (⟨by omega, b, c⟩ : Lft s s1 0); exact this) h2
theorem left_ex {n d : Nat} {f : Int → PS → Option Out} (h0 : Lft s0 s k) (h : needEx n d s f = some v) (g : ∀ p s1, Lft s0 s1 k → f p s1 = some v → PLeft s0 v) : PLeft s0 v := left_rd h0 h (fun p s1 h1 h2 => g _ s1 h1 h2)
theorem left_prd {m : Pm} {n d : Nat} (ih : ∀ d s v, prd n m d s = some v → PLeft s v) {f : List Int → PS → Option Out} (h0 : Lft s0 s k) (h : Out.go (prd n m d s) f = some v) (g : ∀ p s1, Lft s0 s1 k → f p s1 = some v → PLeft s0 v) : PLeft s0 v := by
  rcases go_ok h with ⟨e, h1, rfl⟩ | ⟨p, s1, h1, h2⟩
  · intro l s' e; cases e
  · exact g p s1 (h0.trans (j := 0) (ih _ _ _ h1 p s1 rfl)) h2
theorem PLeft.from_ (h : PLeft s v) (h0 : Lft s0 s k) : PLeft s0 v := fun l s' e => by
  have := h0.trans (h l s' e)
  exact ⟨by have := this.all; omega, this.toks, this.hts⟩
theorem prd_left : ∀ (n : Nat) (m : Pm) (d : Nat) (s : PS) (v : Out), (∀ acc, m ≠ .prog acc) → prd n m d s = some v → PLeft s v
  | 0, _, _, _, _, _, h => by cases h
  | n + 1, .block, d, s, v, _, h => by
    rw [prd] at h
    refine left_need (.refl s) h fun h1 h => ?_
    split at h
    · injection h with h; subst h; intro l s' e; cases e
    · exact (prd_left n _ _ _ _ (fun _ e => by cases e) h).from_ h1
  | n + 1, .stmts acc a, d, s, v, _, h => by
    rw [prd] at h
    split at h
    · rename_i g; exact left_lay ((Lft.refl s).next (sees_nz g)) h
    · exact left_prd (fun d s v h => prd_left n _ _ _ _ (fun _ e => by cases e) h) (.refl s) h fun p s1 h1 h => (prd_left n _ _ _ _ (fun _ e => by cases e) h).from_ h1
  | n + 1, .stmt, d, s, v, _, h => by
    have hB : ∀ d s v, prd n .block d s = some v → PLeft s v := fun d s v h => prd_left n _ _ _ _ (fun _ e => by cases e) h
    have hnx : stAt s.tok ≠ 0 → Lft s s.next 1 := fun h0 => (Lft.refl s).next (stAt_pos h0)
    rw [prd] at h
    split at h
    · rename_i hg; exact left_name (hnx (by rw [hg]; decide)) h fun nm a h1 h => left_need h1 h fun h1 h => left_ex h1 h fun x s1 h1 h => left_need h1 h fun h1 h => left_lay h1 h
    · rename_i hg; exact left_name (hnx (by rw [hg]; decide)) h fun nm a h1 h => left_need h1 h fun h1 h => left_ex h1 h fun x s1 h1 h => left_need h1 h fun h1 h => left_ex h1 h fun y s2 h1 h => left_prd hB h1 h fun z s3 h1 h => left_lay h1 h
    · rename_i hg; exact left_need (hnx (by rw [hg]; decide)) h fun h1 h => left_lay h1 h
    · rename_i hg; exact left_need (hnx (by rw [hg]; decide)) h fun h1 h => left_lay h1 h
    · rename_i hg; exact left_ex (hnx (by rw [hg]; decide)) h fun x s1 h1 h => left_need h1 h fun h1 h => left_lay h1 h
    · rename_i hg; exact left_ex (hnx (by rw [hg]; decide)) h fun x s1 h1 h => left_need h1 h fun h1 h => left_lay h1 h
    · rename_i hg; exact left_ex (hnx (by rw [hg]; decide)) h fun x s1 h1 h => left_prd hB h1 h fun z s2 h1 h => left_lay h1 h
    · rename_i hg
      refine left_ex (hnx (by rw [hg]; decide)) h fun x s1 h1 h => left_prd hB h1 h fun z s2 h1 h => ?_
      split at h
      · rename_i g; exact left_prd hB (h1.next (sees_nz g)) h fun z s2 h1 h => left_lay h1 h
      · exact left_lay h1 h
    · refine left_name (.refl s) h fun nm a h1 h => ?_
      split at h
      · exact left_rd h1 h fun p s1 h1 h => left_need h1 h fun h1 h => left_lay h1 h
      · split at h
        · exact left_rd h1 h fun p s1 h1 h => left_need h1 h fun h1 h => left_ex h1 h fun x s1 h1 h => left_need h1 h fun h1 h => left_lay h1 h
        · exact left_need h1 h fun h1 h => left_ex h1 h fun x s1 h1 h => left_need h1 h fun h1 h => left_lay h1 h
  | n + 1, .params acc, d, s, v, _, h => by
    rw [prd] at h
    refine left_name (.refl s) h fun nm a h1 h => ?_
    split at h
    · injection h with h; subst h; intro l s' e; cases e
    · refine left_kind h1 h fun h1 h => ?_
      rcases go_ok h with ⟨e, h3, rfl⟩ | ⟨q, s2, h3, h4⟩
      · intro l s' e; cases e
      · injection h3 with h3
        have h5 := lay_left h1 h3
        split at h4
        · rename_i g; exact (prd_left n _ _ _ _ (fun _ e => by cases e) h4).from_ (h5.next (sees_nz g))
        · refine left_need h5 h4 fun h1 h => ?_
          injection h with h
          subst h
          intro l s' e
          cases e
          exact ⟨by have := h1.all; omega, h1.toks, h1.hts⟩
  | n + 1, .func, d, s, v, _, h => by
    have hB : ∀ d s v, prd n .block d s = some v → PLeft s v := fun d s v h => prd_left n _ _ _ _ (fun _ e => by cases e) h
    rw [prd] at h
    refine left_name (.refl s) h fun nm a h1 h => left_need h1 h fun h1 h => ?_
    rcases go_ok h with ⟨e, h3, rfl⟩ | ⟨q, s2, h3, h4⟩
    · intro l s' e; cases e
    · have h5 : Lft s s2 1 := by
        split at h3
        · rename_i g
          injection h3 with h3
          injection h3 with h3
          injection h3 with _ h6
          subst h6
          have := h1.next (sees_nz g)
          exact ⟨by have := this.all; omega, this.toks, this.hts⟩
        · have := h1.trans (prd_left n _ _ _ _ (fun _ e => by cases e) h3 q s2 rfl)
          exact ⟨by have := this.all; omega, this.toks, this.hts⟩
      exact left_kind h5 h4 fun h1 h => left_prd hB h1 h fun z s3 h1 h => left_lay h1 h
  | n + 1, .prog acc, d, s, v, hm, h => absurd rfl (hm acc)
theorem PReads.left {m : Pm} {d : Nat} {l : List Int} {s' : PS} (hm : ∀ acc, m ≠ .prog acc) (h : PReads m d s (.ok (l, s'))) : Lft s s' 0 := by
  obtain ⟨n, hn⟩ := h
  exact prd_left n _ _ _ _ hm hn _ _ rfl
theorem prog_left : ∀ (n : Nat) (acc : List Int) (d : Nat) (s : PS) (l : List Int) (s' : PS), prd n (.prog acc) d s = some (.ok (l, s')) → s'.l.length + s'.r.length ≤ s.l.length + s.r.length + 1
  | 0, _, _, _, _, _, h => by cases h
  | n + 1, acc, d, s, l, s', h => by
    rw [prd] at h
    split at h
    · injection h with h
      obtain ⟨a, b, _, _⟩ := lay_slack h
      rw [b]
      omega
    · rcases need_ok h with ⟨h1, h2⟩ | ⟨_, h2⟩
      · split at h2
        · cases h2
        · rcases go_ok h2 with ⟨e, _, h3⟩ | ⟨q, s2, h3, h4⟩
          · cases h3
          · have h5 := ((Lft.refl s).next (sees_nz h1)).trans (prd_left n _ _ _ _ (fun _ e => by cases e) h3 q s2 rfl)
            have h6 := prog_left n _ _ _ _ _ h4
            have := h5.all
            omega
      · cases h2
end Go.Proofs.YtagacfcpepoaoaaGreatDoor
