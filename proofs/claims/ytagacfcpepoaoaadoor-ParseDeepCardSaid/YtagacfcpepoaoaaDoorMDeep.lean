/- ExprDeep, ExprSame, in one text. -/
import Derived.Test.YtagacfcpepoaoaaDoorExprRules
namespace Go.Proofs.YtagacfcpepoaoaaDoor
set_option linter.unusedVariables false

/-- tokens of one byte each -/
def tk1 (c : UInt8) (p : Nat) : Tk := if c = 120 then ⟨1, [120], 0, p⟩ else ⟨4, [c], 0, p⟩
def toks : List UInt8 → Nat → List Tk
  | [], p => [⟨0, [], 0, p⟩]
  | c :: r, p => tk1 c p :: toks r (p + 1)
/-- bytes of which each is a token -/
def plainC (c : UInt8) : Bool := c == 40 || c == 41 || c == 45 || c == 43 || c == 91 || c == 93 || c == 120
def apartB : List UInt8 → Bool
  | [] => true
  | c :: r => plainC c && (c != 120 || r.headD 0 != 120) && apartB r
theorem plain_cases {c : UInt8} (h : plainC c = true) : c = 40 ∨ c = 41 ∨ c = 45 ∨ c = 43 ∨ c = 91 ∨ c = 93 ∨ c = 120 := by
  unfold plainC at h
  simp only [Bool.or_eq_true, beq_iff_eq] at h
  rcases h with (((((h | h) | h) | h) | h) | h) | h
  · exact .inl h
  · exact .inr (.inl h)
  · exact .inr (.inr (.inl h))
  · exact .inr (.inr (.inr (.inl h)))
  · exact .inr (.inr (.inr (.inr (.inl h))))
  · exact .inr (.inr (.inr (.inr (.inr (.inl h)))))
  · exact .inr (.inr (.inr (.inr (.inr (.inr h)))))
theorem skp_plain {r : List UInt8} (h : apartB r = true) : skp false r = 0 := by
  cases r with
  | nil => rfl
  | cons c cs =>
    unfold apartB at h
    simp only [Bool.and_eq_true] at h
    rcases plain_cases h.1.1 with rfl | rfl | rfl | rfl | rfl | rfl | rfl <;> rfl
theorem rn_plain {r : List UInt8} (h : apartB r = true) (hx : r.headD 0 ≠ 120) : rn isWb r = 0 := by
  cases r with
  | nil => rfl
  | cons c cs =>
    unfold apartB at h
    simp only [Bool.and_eq_true] at h
    rcases plain_cases h.1.1 with rfl | rfl | rfl | rfl | rfl | rfl | rfl
    · rfl
    · rfl
    · rfl
    · rfl
    · rfl
    · rfl
    · exact absurd rfl hx
theorem bt_plain {r : List UInt8} (h : apartB r = true) : bt r 0 ≠ 37 := by
  cases r with
  | nil => show (0 : UInt8).toNat ≠ 37; decide
  | cons c cs =>
    unfold apartB at h
    simp only [Bool.and_eq_true] at h
    show c.toNat ≠ 37
    rcases plain_cases h.1.1 with rfl | rfl | rfl | rfl | rfl | rfl | rfl <;> decide
theorem S_plain : ∀ (R : List UInt8) (p : Nat), apartB R = true → S R p = .ok (toks R p)
  | [], p, _ => rfl
  | c :: r, p, h => by
    have h' := h
    unfold apartB at h'
    simp only [Bool.and_eq_true] at h'
    obtain ⟨⟨hc, hx⟩, hr⟩ := h'
    have ih := S_plain r (p + 1) hr
    have hz := skp_plain hr
    have hb := bt_plain hr
    have key : ln (c :: r) = 1 ∧ er (c :: r) = 0 ∧ tk (c :: r) p = tk1 c p := by
      rcases plain_cases hc with rfl | rfl | rfl | rfl | rfl | rfl | rfl
      · exact ⟨rfl, rfl, rfl⟩
      · exact ⟨rfl, rfl, rfl⟩
      · have e : ln (45 :: r) = 1 := by show (if bt r 0 = 37 then 2 else 1) = 1; rw [if_neg hb]
        exact ⟨e, by unfold er; rw [e]; rfl, by unfold tk; rw [e]; rfl⟩
      · have e : ln (43 :: r) = 1 := by show (if bt r 0 = 37 then 2 else 1) = 1; rw [if_neg hb]
        exact ⟨e, by unfold er; rw [e]; rfl, by unfold tk; rw [e]; rfl⟩
      · exact ⟨rfl, rfl, rfl⟩
      · exact ⟨rfl, rfl, rfl⟩
      · have hx' : r.headD 0 ≠ 120 := by simpa using hx
        have e : ln (120 :: r) = 1 := by show 1 + rn isWb r = 1; rw [rn_plain hr hx']
        exact ⟨e, by unfold er; rw [e]; rfl, by unfold tk; rw [e]; rfl⟩
    obtain ⟨hl, he, ht⟩ := key
    have ho : off (c :: r) = 1 := by unfold off; rw [hl]; show 1 + skp false r = 1; rw [hz]
    rw [S_tok p (by simp) he, ht]
    have hn : nxt (c :: r) = r := by unfold nxt; rw [ho]; rfl
    rw [hn, ho, ih]
    rfl
theorem T_plain {R : List UInt8} (h : apartB R = true) : T R 0 = .ok (toks R 0) := by
  unfold T
  rw [skp_plain h]
  exact S_plain R 0 h
/-- a reader before such tokens -/
def st (R : List UInt8) (p : Nat) (l : List Nd) (h : List Nat) : PS := ⟨toks R p, l, h⟩
/-- what may stand behind an expression -/
def closZ (Z : List UInt8) : Prop := Z = [] ∨ ∃ r, Z = 41 :: r ∨ Z = 93 :: r
theorem clos_op {Z : List UInt8} (hz : closZ Z) {p : Nat} {l : List Nd} {h : List Nat} : ∀ lv, lv < 5 → opAt lv (st Z p l h).tok = none := by
  intro lv hlv
  have : lv = 0 ∨ lv = 1 ∨ lv = 2 ∨ lv = 3 ∨ lv = 4 := by omega
  rcases hz with rfl | ⟨r, rfl | rfl⟩ <;> rcases this with rfl | rfl | rfl | rfl | rfl <;> rfl
theorem clos_lb {Z : List UInt8} (hz : closZ Z) {p : Nat} {l : List Nd} {h : List Nat} : (st Z p l h).is lb = false := by
  rcases hz with rfl | ⟨r, rfl | rfl⟩ <;> rfl
theorem clos_lp {Z : List UInt8} (hz : closZ Z) {p : Nat} {l : List Nd} {h : List Nat} : (st Z p l h).is lp = false := by
  rcases hz with rfl | ⟨r, rfl | rfl⟩ <;> rfl
variable {d p : Nat} {s s1 : PS} {k : Int} {f : Flt} {l : List Nd} {h : List Nat}
theorem up4 (g : Reads .front d s (.ok ([k], s1))) (ho : opAt 4 s1.tok = none) : Reads (.chain 4) d s (.ok ([k], s1)) := .chain (by decide) (.chain5 g) (.loop_end ho)
theorem up0 (g : Reads .front d s (.ok ([k], s1))) (ho : ∀ lv, lv < 5 → opAt lv s1.tok = none) : Reads (.chain 0) d s (.ok ([k], s1)) :=
  .chain (by decide) (.chain (by decide) (.chain (by decide) (.chain (by decide) (up4 g (ho 4 (by omega))) (.loop_end (ho 3 (by omega)))) (.loop_end (ho 2 (by omega)))) (.loop_end (ho 1 (by omega)))) (.loop_end (ho 0 (by omega)))
theorem up_err (g : Reads .front d s (.error f)) : Reads (.chain 0) d s (.error f) :=
  .chain_err (by decide) (.chain_err (by decide) (.chain_err (by decide) (.chain_err (by decide) (.chain_err (by decide) (.chain5 g)))))
theorem lay_ok {x : Nd} {s : PS} {t : Nat} (ht : high s.h x.kids = t) (h2 : t ≤ 200) : lay x s = .ok ([(s.l.length : Int)], ⟨s.r, s.l ++ [x], s.h ++ [t]⟩) := by
  unfold lay
  rw [ht, if_neg (by omega)]
theorem lay_no {x : Nd} {s : PS} {t : Nat} (ht : high s.h x.kids = t) (h2 : 200 < t) : lay x s = .error (4, x.at_.toNat) := by
  unfold lay
  rw [ht, if_pos h2]
theorem high1 {h : List Nat} {a : Nat} (ha : a < h.length) : high h [(a : Int)] = h.getD a 0 + 1 := by
  show hstep h 1 (a : Int) = _
  unfold hstep
  rw [if_pos ⟨by omega, by omega⟩, Int.toNat_natCast]
  omega
theorem high2 {h : List Nat} {a b : Nat} (ha : a < h.length) (hb : b < h.length) : high h [(a : Int), (b : Int)] = max (h.getD a 0) (h.getD b 0) + 1 := by
  show hstep h (hstep h 1 (a : Int)) (b : Int) = _
  unfold hstep
  rw [if_pos ⟨by omega, by omega⟩, if_pos ⟨by omega, by omega⟩, Int.toNat_natCast, Int.toNat_natCast]
  omega
/-- x -/
theorem leaf (r : List UInt8) (hn : (st r (p + 1) l h).is lp = false) : Reads .single d (st (120 :: r) p l h) (.ok ([(l.length : Int)], st r (p + 1) (l ++ [En 4 [] 0 ⟨#[120]⟩ p]) (h ++ [1]))) := by
  have g := Reads.single_var (d := d) (s := st (120 :: r) p l h) rfl hn
  have e : lay (En 4 [] 0 ⟨(st (120 :: r) p l h).tok.text.toArray⟩ (st (120 :: r) p l h).tok.place) (st (120 :: r) p l h).next = .ok ([(l.length : Int)], st r (p + 1) (l ++ [En 4 [] 0 ⟨#[120]⟩ p]) (h ++ [1])) := lay_ok rfl (by omega)
  rw [e] at g
  exact g
theorem leaf_front (r : List UInt8) (hn : (st r (p + 1) l h).is lp = false) (hb : (st r (p + 1) l h).is lb = false) : Reads .front d (st (120 :: r) p l h) (.ok ([(l.length : Int)], st r (p + 1) (l ++ [En 4 [] 0 ⟨#[120]⟩ p]) (h ++ [1]))) :=
  .front_none rfl rfl (.idx (leaf r hn) (.more_end hb))
theorem getD_last {h : List Nat} {t : Nat} : (h ++ [t]).getD h.length 0 = t := by
  rw [List.getD_eq_getElem?_getD, List.getElem?_append_right (Nat.le_refl _), Nat.sub_self]; rfl
theorem getD_left {h r : List Nat} {i : Nat} (hi : i < h.length) : (h ++ r).getD i 0 = h.getD i 0 := by
  rw [List.getD_eq_getElem?_getD, List.getD_eq_getElem?_getD, List.getElem?_append_left hi]
/-- n times a byte -/
def rep (c : UInt8) (n : Nat) : List UInt8 := List.replicate n c
theorem rep_succ (c : UInt8) (n : Nat) : rep c (n + 1) = c :: rep c n := rfl
theorem rep_snoc (c : UInt8) (n : Nat) (Z : List UInt8) : rep c (n + 1) ++ Z = rep c n ++ c :: Z := by
  induction n with
  | zero => rfl
  | succ n ih => rw [rep_succ, List.cons_append, ih, rep_succ, List.cons_append]
/-- brackets -/
theorem br_ok : ∀ (j d p : Nat) (Z : List UInt8) (l : List Nd) (h : List Nat), d + j ≤ 200 → closZ Z → ∃ (k : Int) (q : Nat) (l' : List Nd) (h' : List Nat), Reads (.chain 0) d (st (rep 40 j ++ 120 :: (rep 41 j ++ Z)) p l h) (.ok ([k], st Z q l' h'))
  | 0, d, p, Z, l, h, _, hz => ⟨_, _, _, _, up0 (leaf_front Z (clos_lp hz) (clos_lb hz)) (clos_op hz)⟩
  | j + 1, d, p, Z, l, h, hd, hz => by
    obtain ⟨k, q, l', h', ih⟩ := br_ok j (d + 1) (p + 1) (41 :: Z) l h (by omega) (.inr ⟨Z, .inl rfl⟩)
    rw [← rep_snoc] at ih
    exact ⟨k, q + 1, l', h', up0 (.front_none rfl rfl (.idx (.single_in rfl (.inner_ok rfl (by omega) ih rfl)) (.more_end (clos_lb hz)))) (clos_op hz)⟩
theorem br_no : ∀ (j d p : Nat) (Z : List UInt8) (l : List Nd) (h : List Nat), d ≤ 200 → 200 < d + j → ∃ q, Reads (.chain 0) d (st (rep 40 j ++ Z) p l h) (.error (4, q))
  | 0, d, p, Z, l, h, h1, h2 => by omega
  | j + 1, d, p, Z, l, h, h1, h2 => by
    by_cases e : d = 200
    · exact ⟨_, up_err (.front_none rfl rfl (.idx_err (.single_in rfl (.inner_deep rfl (by omega)))))⟩
    · obtain ⟨q, ih⟩ := br_no j (d + 1) (p + 1) Z l h (by omega) (by omega)
      exact ⟨q, up_err (.front_none rfl rfl (.idx_err (.single_in rfl (.inner_err rfl (by omega) ih))))⟩
/-- signs in front -/
theorem mi_ok : ∀ (j d p : Nat) (l : List Nd) (h : List Nat), d + j ≤ 200 → j + 1 ≤ 200 → h.length = l.length → ∃ (k q : Nat) (l' : List Nd) (h' : List Nat), Reads .front d (st (rep 45 j ++ [120]) p l h) (.ok ([(k : Int)], st [] q l' h')) ∧ k < h'.length ∧ h'.getD k 0 = j + 1 ∧ h'.length = l'.length
  | 0, d, p, l, h, _, _, hl => ⟨l.length, p + 1, _, _, leaf_front [] rfl rfl, by rw [List.length_append, hl]; exact Nat.lt_succ_self _, by rw [← hl]; exact getD_last, by rw [List.length_append, List.length_append, hl]; rfl⟩
  | j + 1, d, p, l, h, hd, hj, hl => by
    obtain ⟨k, q, l', h', ih, hk, ht, hll⟩ := mi_ok j (d + 1) (p + 1) l h (by omega) (by omega) hl
    have g := Reads.front_lay (s := st (rep 45 (j + 1) ++ [120]) p l h) (.inl rfl) (by omega) ih
    have e := lay_ok (x := En (if (st (rep 45 (j + 1) ++ [120]) p l h).is minus then 6 else 7) [(k : Int)] 0 ⟨#[]⟩ (st (rep 45 (j + 1) ++ [120]) p l h).tok.place) (s := st [] q l' h') (t := j + 2) (by rw [show (En _ [(k : Int)] 0 ⟨#[]⟩ _).kids = [(k : Int)] from rfl]; show high h' _ = _; rw [high1 hk, ht]) (by omega)
    rw [e] at g
    refine ⟨l'.length, q, _, _, g, ?_, ?_, ?_⟩
    · show l'.length < (h' ++ [j + 2]).length
      rw [List.length_append, hll]; exact Nat.lt_succ_self _
    · show (h' ++ [j + 2]).getD l'.length 0 = _
      rw [← hll]; exact getD_last
    · show (h' ++ [j + 2]).length = _
      rw [List.length_append, List.length_append, hll]; rfl
theorem mi_no : ∀ (j d p : Nat) (l : List Nd) (h : List Nat), d ≤ 200 → (200 < d + j ∨ 200 < j + 1) → h.length = l.length → ∃ q, Reads .front d (st (rep 45 j ++ [120]) p l h) (.error (4, q))
  | 0, d, p, l, h, h1, h2, _ => by omega
  | j + 1, d, p, l, h, h1, h2, hl => by
    by_cases e : d = 200
    · exact ⟨_, .front_deep (.inl rfl) (by omega)⟩
    · by_cases g : 200 < d + 1 + j ∨ 200 < j + 1
      · obtain ⟨q, ih⟩ := mi_no j (d + 1) (p + 1) l h (by omega) g hl
        exact ⟨q, .front_err (.inl rfl) (by omega) ih⟩
      · obtain ⟨k, q, l', h', ih, hk, ht, hll⟩ := mi_ok j (d + 1) (p + 1) l h (by omega) (by omega) hl
        have g := Reads.front_lay (s := st (rep 45 (j + 1) ++ [120]) p l h) (.inl rfl) (by omega) ih
        have e := lay_no (x := En (if (st (rep 45 (j + 1) ++ [120]) p l h).is minus then 6 else 7) [(k : Int)] 0 ⟨#[]⟩ (st (rep 45 (j + 1) ++ [120]) p l h).tok.place) (s := st [] q l' h') (t := j + 2) (by rw [show (En _ [(k : Int)] 0 ⟨#[]⟩ _).kids = [(k : Int)] from rfl]; show high h' _ = _; rw [high1 hk, ht]) (by omega)
        rw [e] at g
        exact ⟨_, g⟩
/-- operators -/
def pls : Nat → List UInt8
  | 0 => []
  | j + 1 => 43 :: 120 :: pls j
theorem pls_head (j : Nat) {p : Nat} {l : List Nd} {h : List Nat} : (st (pls j) p l h).is lp = false ∧ (st (pls j) p l h).is lb = false ∧ opAt 4 (st (pls j) p l h).tok = none := by
  cases j with
  | zero => exact ⟨rfl, rfl, rfl⟩
  | succ j => exact ⟨rfl, rfl, rfl⟩
theorem pl_all : ∀ (j p k : Nat) (l : List Nd) (h : List Nat), h.length = l.length → k < h.length → 1 ≤ h.getD k 0 → h.getD k 0 ≤ 200 →
    (h.getD k 0 + j ≤ 200 → ∃ (k' : Int) (q : Nat) (l' : List Nd) (h' : List Nat), Reads (.loop 3 (k : Int)) 0 (st (pls j) p l h) (.ok ([k'], st [] q l' h'))) ∧ (200 < h.getD k 0 + j → ∃ q, Reads (.loop 3 (k : Int)) 0 (st (pls j) p l h) (.error (4, q)))
  | 0, p, k, l, h, hl, hk, h1, h2 => ⟨fun _ => ⟨_, _, _, _, .loop_end rfl⟩, fun h => by omega⟩
  | j + 1, p, k, l, h, hl, hk, h1, h2 => by
    obtain ⟨e1, e2, e3⟩ := pls_head j (p := p + 2) (l := l) (h := h)
    have hr := up4 (d := 0) (leaf_front (p := p + 1) (l := l) (h := h) (pls j) e1 e2) e3
    have hk' : k < (h ++ [1]).length := by rw [List.length_append]; exact Nat.lt_succ_of_lt hk
    have hb' : l.length < (h ++ [1]).length := by rw [List.length_append, hl]; exact Nat.lt_succ_self _
    have hh : high (h ++ [1]) [(k : Int), (l.length : Int)] = h.getD k 0 + 1 := by
      rw [high2 hk' hb', getD_left hk, ← hl, getD_last]
      omega
    have hop : opAt 3 (st (pls (j + 1)) p l h).tok = some 9 := rfl
    by_cases g : h.getD k 0 + 1 ≤ 200
    · have e := lay_ok (x := En 5 [(k : Int), (l.length : Int)] 9 ⟨#[]⟩ (st (pls (j + 1)) p l h).tok.place) (s := st (pls j) (p + 2) (l ++ [En 4 [] 0 ⟨#[120]⟩ ((p + 1 : Nat) : Int)]) (h ++ [1])) hh g
      have ih := pl_all j (p + 2) (l.length + 1) (l ++ [En 4 [] 0 ⟨#[120]⟩ ((p + 1 : Nat) : Int)] ++ [En 5 [(k : Int), (l.length : Int)] 9 ⟨#[]⟩ (st (pls (j + 1)) p l h).tok.place]) (h ++ [1] ++ [h.getD k 0 + 1]) (by simp [hl]) (by simp [hl])
      have hlast : (h ++ [1] ++ [h.getD k 0 + 1]).getD (l.length + 1) 0 = h.getD k 0 + 1 := by
        have := getD_last (h := h ++ [1]) (t := h.getD k 0 + 1)
        rw [List.length_append, hl] at this
        exact this
      rw [hlast] at ih
      have ih' := ih (by omega) g
      have hnx : ∀ v, Reads (.loop 3 ((l.length + 1 : Nat) : Int)) 0 (st (pls j) (p + 2) (l ++ [En 4 [] 0 ⟨#[120]⟩ ((p + 1 : Nat) : Int)] ++ [En 5 [(k : Int), (l.length : Int)] 9 ⟨#[]⟩ (st (pls (j + 1)) p l h).tok.place]) (h ++ [1] ++ [h.getD k 0 + 1])) v → Reads (.loop 3 (k : Int)) 0 (st (pls (j + 1)) p l h) v := by
        intro v hv
        refine Reads.loop_next (k := ((l.length + 1 : Nat) : Int)) (by decide) hop hr ?_ hv
        rw [show ((9 : Nat) : Int) = 9 from rfl, e]
        have : (st (pls j) (p + 2) (l ++ [En 4 [] 0 ⟨#[120]⟩ ((p + 1 : Nat) : Int)]) (h ++ [1])).l.length = l.length + 1 := by show (l ++ [_]).length = _; simp
        rw [this]
        rfl
      refine ⟨fun hj => ?_, fun hj => ?_⟩
      · obtain ⟨k', q, l', h', r⟩ := ih'.1 (by omega)
        exact ⟨k', q, l', h', hnx _ r⟩
      · obtain ⟨q, r⟩ := ih'.2 (by omega)
        exact ⟨q, hnx _ r⟩
    · have e := lay_no (x := En 5 [(k : Int), (l.length : Int)] 9 ⟨#[]⟩ (st (pls (j + 1)) p l h).tok.place) (s := st (pls j) (p + 2) (l ++ [En 4 [] 0 ⟨#[120]⟩ ((p + 1 : Nat) : Int)]) (h ++ [1])) hh (by omega)
      refine ⟨fun hj => by omega, fun hj => ⟨((st (pls (j + 1)) p l h).tok.place : Int).toNat, Reads.loop_high hop hr ?_⟩⟩
      rw [show ((9 : Nat) : Int) = 9 from rfl]
      exact e
/-- indexes -/
def xbs : Nat → List UInt8 → List UInt8
  | 0, Z => Z
  | j + 1, Z => 120 :: 91 :: xbs j Z
theorem ix_all : ∀ (j d p : Nat) (Z : List UInt8) (l : List Nd) (h : List Nat), d ≤ 200 → closZ Z → h.length = l.length →
    (d + j ≤ 200 → j + 1 ≤ 200 → ∃ (k q : Nat) (l' : List Nd) (h' : List Nat), Reads (.chain 0) d (st (xbs j (120 :: (rep 93 j ++ Z))) p l h) (.ok ([(k : Int)], st Z q l' h')) ∧ k < h'.length ∧ h'.getD k 0 = j + 1 ∧ h'.length = l'.length ∧ h.length ≤ h'.length ∧ ∀ i, i < h.length → h'.getD i 0 = h.getD i 0) ∧
    ((200 < d + j ∨ 200 < j + 1) → ∃ q, Reads (.chain 0) d (st (xbs j (120 :: (rep 93 j ++ Z))) p l h) (.error (4, q)))
  | 0, d, p, Z, l, h, hd, hz, hl => ⟨fun _ _ => ⟨l.length, p + 1, _, _, up0 (leaf_front Z (clos_lp hz) (clos_lb hz)) (clos_op hz), by rw [List.length_append, hl]; exact Nat.lt_succ_self _, by rw [← hl]; exact getD_last, by rw [List.length_append, List.length_append, hl]; rfl, by rw [List.length_append]; omega, fun i hi => getD_left hi⟩, fun h => by omega⟩
  | j + 1, d, p, Z, l, h, hd, hz, hl => by
    have hlf := leaf (d := d) (p := p) (l := l) (h := h) (91 :: xbs j (120 :: (rep 93 (j + 1) ++ Z))) rfl
    have hm0 : l.length < (h ++ [1]).length := by rw [List.length_append, hl]; exact Nat.lt_succ_self _
    by_cases e : d = 200
    · refine ⟨fun h => by omega, fun _ => ⟨_, up_err (.front_none rfl rfl (.idx hlf (.more_err rfl (.inner_deep rfl (by omega)))))⟩⟩
    · have hd2 : d < 200 := by omega
      have ih := ix_all j (d + 1) (p + 2) (93 :: Z) (l ++ [En 4 [] 0 ⟨#[120]⟩ p]) (h ++ [1]) (by omega) (.inr ⟨Z, .inr rfl⟩) (by simp [hl])
      rw [← rep_snoc] at ih
      obtain ⟨ih1, ih2⟩ := ih
      by_cases g : 200 < d + 1 + j ∨ 200 < j + 1
      · obtain ⟨q, r⟩ := ih2 g
        clear ih1 ih2
        exact ⟨fun h1 h2 => by omega, fun _ => ⟨q, up_err (.front_none rfl rfl (.idx hlf (.more_err rfl (.inner_err rfl hd2 r))))⟩⟩
      · have g1 : d + 1 + j ≤ 200 := by omega
        have g3 : j + 1 ≤ 200 := by omega
        obtain ⟨k, q, l', h', r, hk, ht, hll, hle, hpre⟩ := ih1 g1 g3
        clear ih1 ih2
        have hin : Reads (.inner lb rb) d (st (91 :: xbs j (120 :: (rep 93 (j + 1) ++ Z))) (p + 1) (l ++ [En 4 [] 0 ⟨#[120]⟩ p]) (h ++ [1])) (.ok ([(k : Int)], st Z (q + 1) l' h')) := Reads.inner_ok (s := st (91 :: xbs j (120 :: (rep 93 (j + 1) ++ Z))) (p + 1) (l ++ [En 4 [] 0 ⟨#[120]⟩ p]) (h ++ [1])) (s1 := st (93 :: Z) q l' h') rfl hd2 r rfl
        have hlt : l.length < h'.length := by omega
        have hh : high h' [(l.length : Int), (k : Int)] = j + 2 := by
          rw [high2 hlt hk, ht, hpre l.length hm0, ← hl, getD_last]
          omega
        by_cases g2 : j + 2 ≤ 200
        · have e := lay_ok (x := En 8 [(l.length : Int), (k : Int)] 0 ⟨#[]⟩ (st (91 :: xbs j (120 :: (rep 93 (j + 1) ++ Z))) (p + 1) (l ++ [En 4 [] 0 ⟨#[120]⟩ p]) (h ++ [1])).tok.place) (s := st Z (q + 1) l' h') hh g2
          refine ⟨fun _ _ => ⟨l'.length, q + 1, _, _, up0 (.front_none rfl rfl (.idx hlf (.more_next rfl hin e (.more_end (clos_lb (h := h' ++ [j + 2]) hz))))) (clos_op hz), ?_, ?_, ?_, ?_, ?_⟩, fun h => by omega⟩
          · show l'.length < (h' ++ [j + 2]).length
            rw [List.length_append, hll]; exact Nat.lt_succ_self _
          · show (h' ++ [j + 2]).getD l'.length 0 = _
            rw [← hll]; exact getD_last
          · show (h' ++ [j + 2]).length = _
            rw [List.length_append, List.length_append, hll]; rfl
          · show h.length ≤ (h' ++ [j + 2]).length
            rw [List.length_append] at hle ⊢; omega
          · intro i hi
            show (h' ++ [j + 2]).getD i 0 = _
            rw [getD_left (by omega), hpre i (by rw [List.length_append]; omega), getD_left hi]
        · have e := lay_no (x := En 8 [(l.length : Int), (k : Int)] 0 ⟨#[]⟩ (st (91 :: xbs j (120 :: (rep 93 (j + 1) ++ Z))) (p + 1) (l ++ [En 4 [] 0 ⟨#[120]⟩ p]) (h ++ [1])).tok.place) (s := st Z (q + 1) l' h') hh (by omega)
          exact ⟨fun _ h => by omega, fun _ => ⟨_, up_err (.front_none rfl rfl (.idx hlf (.more_high rfl hin e)))⟩⟩
end Go.Proofs.YtagacfcpepoaoaaDoor

namespace Go.Proofs.YtagacfcpepoaoaaDoor
set_option linter.unusedVariables false

def tcore (t : Tk) : Tk := { t with place := 0 }
def ncore (x : Nd) : Nd := { x with at_ := 0 }
theorem sees_core {a b : Tk} (h : tcore a = tcore b) (t : List UInt8) : sees a t = sees b t := by
  have h1 : a.kind = b.kind := by have := congrArg Tk.kind h; exact this
  have h2 : a.text = b.text := by have := congrArg Tk.text h; exact this
  unfold sees
  rw [h1, h2]
theorem sg_core {a b : Tk} (h : tcore a = tcore b) : sg a = sg b := by
  have h1 : a.kind = b.kind := by have := congrArg Tk.kind h; exact this
  unfold sg
  simp only [sees_core h, h1]
/-- what may stand behind: an end, or a ) -/
def shuts (z : Tk) : Prop := z.kind = 0 ∨ (z.kind = 4 ∧ z.text = rp)
theorem shuts_sees {z : Tk} (h : shuts z) {t : List UInt8} (ht : t ≠ rp) : sees z t = false := by
  unfold sees
  rcases h with h | ⟨h1, h2⟩
  · rw [h]; rfl
  · rw [h1, h2, show (rp == t) = false from beq_eq_false_iff_ne.2 (fun e => ht e.symm)]
    rfl
theorem end_sees {e : Tk} (h : e.kind = 0) (t : List UInt8) : sees e t = false := by unfold sees; rw [h]; rfl
theorem sign_not (a : Nat) : tSigns.getD a [] ≠ rp := by
  have h : ∀ x ∈ tSigns, x ≠ rp := by decide
  rw [List.getD_eq_getElem?_getD]
  cases hx : tSigns[a]? with
  | none => show ([] : List UInt8) ≠ rp; decide
  | some x => exact h x (List.mem_of_getElem? hx)
theorem opFrom_eq {a b : Tk} (h : ∀ t, t ≠ rp → sees a t = sees b t) : ∀ (n k : Nat), opFrom a k n = opFrom b k n
  | 0, _ => rfl
  | n + 1, k => by
    unfold opFrom
    rw [h _ (sign_not k), opFrom_eq h n (k + 1)]
/-- two readers: the tokens are alike up to the end of the first one's -/
structure Rel (e z : Tk) (rest : List Tk) (A B : List Tk) (s t : PS) : Prop where
  sr : s.r = A ++ [e]
  tr : t.r = B ++ z :: rest
  al : A.map tcore = B.map tcore
  pos : ∀ a ∈ A, a.kind ≠ 0
  h : s.h = t.h
  l : s.l.map ncore = t.l.map ncore
variable {e z : Tk} {rest A B : List Tk} {s t : PS}
theorem Rel.two (R : Rel e z rest A B s t) : (A = [] ∧ B = [] ∧ s.tok = e ∧ t.tok = z) ∨ ∃ a A' b B', A = a :: A' ∧ B = b :: B' ∧ tcore a = tcore b ∧ s.tok = a ∧ t.tok = b ∧ Rel e z rest A' B' s.next t.next := by
  cases A with
  | nil =>
    have hB : B = [] := by have := R.al; cases B with
      | nil => rfl
      | cons b r => cases this
    refine .inl ⟨rfl, hB, ?_, ?_⟩
    · unfold PS.tok; rw [R.sr]; rfl
    · unfold PS.tok; rw [R.tr, hB]; rfl
  | cons a A' =>
    cases B with
    | nil => have := R.al; cases this
    | cons b B' =>
      have hal := R.al
      rw [List.map_cons, List.map_cons] at hal
      injection hal with h1 h2
      refine .inr ⟨a, A', b, B', rfl, rfl, h1, ?_, ?_, ⟨?_, ?_, h2, (fun x hx => R.pos x (List.mem_cons_of_mem _ hx)), R.h, R.l⟩⟩
      · unfold PS.tok; rw [R.sr]; rfl
      · unfold PS.tok; rw [R.tr]; rfl
      · show s.r.tail = _; rw [R.sr]; rfl
      · show t.r.tail = _; rw [R.tr]; rfl
theorem Rel.len (R : Rel e z rest A B s t) : 1 ≤ s.r.length := by rw [R.sr, List.length_append]; exact Nat.le_add_left 1 _
theorem Rel.sees (he : e.kind = 0) (hz : shuts z) (R : Rel e z rest A B s t) (x : List UInt8) (hx : x ≠ rp) : sees s.tok x = sees t.tok x := by
  rcases R.two with ⟨_, _, h1, h2⟩ | ⟨a, A', b, B', _, _, h, h1, h2, _⟩
  · rw [h1, h2, end_sees he, shuts_sees hz hx]
  · rw [h1, h2, sees_core h]
theorem Rel.is (he : e.kind = 0) (hz : shuts z) (R : Rel e z rest A B s t) (x : List UInt8) (hx : x ≠ rp) : s.is x = t.is x := R.sees he hz x hx
theorem Rel.op (he : e.kind = 0) (hz : shuts z) (R : Rel e z rest A B s t) (lv : Nat) : opAt lv s.tok = opAt lv t.tok := opFrom_eq (fun x hx => R.sees he hz x hx) _ _
theorem Rel.step (he : e.kind = 0) (R : Rel e z rest A B s t) (hk : s.tok.kind ≠ 0) : ∃ a A' b B', A = a :: A' ∧ B = b :: B' ∧ tcore s.tok = tcore t.tok ∧ Rel e z rest A' B' s.next t.next := by
  rcases R.two with ⟨_, _, h1, _⟩ | ⟨a, A', b, B', h3, h4, h, h1, h2, h5⟩
  · rw [h1] at hk; exact absurd he hk
  · exact ⟨a, A', b, B', h3, h4, by rw [h1, h2]; exact h, h5⟩
theorem sees_pos {k : Tk} {x : List UInt8} (h : Go.Proofs.YtagacfcpepoaoaaDoor.sees k x = true) : k.kind ≠ 0 := fun g => by rw [end_sees g] at h; cases h
theorem lay_sim {x y : Nd} {l : List Int} {s' : PS} (R : Rel e z rest A B s t) (h : lay x s = .ok (l, s')) (hx : ncore x = ncore y) : ∃ t', lay y t = .ok (l, t') ∧ Rel e z rest A B s' t' := by
  have hk : x.kids = y.kids := by have := congrArg Nd.kids hx; exact this
  have hlen : s.l.length = t.l.length := by have := congrArg List.length R.l; rw [List.length_map, List.length_map] at this; exact this
  unfold lay at h ⊢
  rw [R.h, hk] at h
  split at h
  · cases h
  · rename_i g
    rw [if_neg g]
    injection h with h
    injection h with h1 h2
    subst h1 h2
    refine ⟨⟨t.r, t.l ++ [y], t.h ++ [high t.h y.kids]⟩, by rw [hlen], R.sr, R.tr, R.al, R.pos, ?_, ?_⟩
    · rfl
    · show (s.l ++ [x]).map ncore = (t.l ++ [y]).map ncore
      rw [List.map_append, List.map_append, R.l]
      show _ ++ [ncore x] = _ ++ [ncore y]
      rw [hx]
/-- who reads something begins with a token -/
theorem rd_some : ∀ (n : Nat) (m : Md) (d : Nat) (s : PS) (x : List Int × PS), rd n m d s = some (.ok x) → (∀ lv p, m ≠ .loop lv p) → (∀ p, m ≠ .more p) → s.tok.kind ≠ 0
  | 0, _, _, _, _, h, _, _ => by cases h
  | n + 1, .chain lv, d, s, x, h, _, _ => by
    rw [rd] at h
    split at h
    · exact rd_some n _ _ _ _ h (fun _ _ e => by cases e) (fun _ e => by cases e)
    · rcases go_ok h with ⟨e, _, h2⟩ | ⟨p, s1, h1, _⟩
      · cases h2
      · exact rd_some n _ _ _ _ h1 (fun _ _ e => by cases e) (fun _ e => by cases e)
  | n + 1, .loop lv p, d, s, x, h, h1, _ => absurd rfl (h1 lv p)
  | n + 1, .more p, d, s, x, h, _, h1 => absurd rfl (h1 p)
  | n + 1, .front, d, s, x, h, _, _ => by
    rw [rd] at h
    split at h
    · rename_i g
      rw [Bool.or_eq_true] at g
      rcases g with g | g
      · exact sees_pos g
      · exact sees_pos g
    · exact rd_some n _ _ _ _ h (fun _ _ e => by cases e) (fun _ e => by cases e)
  | n + 1, .idx, d, s, x, h, _, _ => by
    rw [rd] at h
    rcases go_ok h with ⟨e, _, h2⟩ | ⟨p, s1, h1, _⟩
    · cases h2
    · exact rd_some n _ _ _ _ h1 (fun _ _ e => by cases e) (fun _ e => by cases e)
  | n + 1, .inner a b, d, s, x, h, _, _ => by
    rw [rd] at h
    split at h
    · rename_i g; exact sees_pos g
    · cases h
  | n + 1, .call nm a, d, s, x, h, _, _ => by
    rw [rd] at h
    split at h
    · rename_i g; exact sees_pos g
    · cases h
  | n + 1, .args acc, d, s, x, h, _, _ => by
    rw [rd] at h
    split at h
    · cases h
    · rcases go_ok h with ⟨e, _, h2⟩ | ⟨p, s1, h1, _⟩
      · cases h2
      · exact rd_some n _ _ _ _ h1 (fun _ _ e => by cases e) (fun _ e => by cases e)
  | n + 1, .single, d, s, x, h, _, _ => by
    rw [rd_single] at h
    intro hk
    have : sg s.tok = 0 := by unfold sg sees; rw [hk]; rfl
    rw [this] at h
    cases h
/-- the same but for a call's place -/
def modeEq (m m' : Md) : Prop := m = m' ∨ ∃ nm a a', m = .call nm a ∧ m' = .call nm a'
/-- what the other reader reads -/
def Sims (e z : Tk) (rest : List Tk) (n : Nat) (m : Md) (d : Nat) (l : List Int) (s' t : PS) : Prop := ∃ t' A' B', rd n m d t = some (.ok (l, t')) ∧ Rel e z rest A' B' s' t'
theorem rd_len {n : Nat} {m : Md} {d : Nat} {s : PS} {l : List Int} {s' : PS} (h : rd n m d s = some (.ok (l, s'))) : s'.r.length ≤ s.r.length := (rd_slack n m d s _ h l s' rfl).2.1
theorem next_len (h : s.tok.kind ≠ 0) : s.next.r.length + 1 = s.r.length := slack_kind h
theorem rd_sim (he : e.kind = 0) (hz : shuts z) (k : Nat) : ∀ (n : Nat) (m m' : Md) (d : Nat) (s t : PS) (A B : List Tk) (l : List Int) (s' : PS), modeEq m m' → rd n m d s = some (.ok (l, s')) → Rel e z rest A B s t → d + k + s.r.length ≤ 201 → Sims e z rest n m' (d + k) l s' t
  | 0, _, _, _, _, _, _, _, _, _, _, h, _, _ => by cases h
  | n + 1, .chain lv, m', d, s, t, A, B, l, s', hm, h, R, hd => by
    obtain rfl : _ = m' := by
      rcases hm with h | ⟨_, _, _, h, _⟩
      · exact h
      · cases h
    have ih := rd_sim he hz k n
    rw [rd] at h
    unfold Sims
    rw [rd]
    split at h
    · rename_i g
      rw [if_pos g]
      exact ih _ _ _ _ _ _ _ _ _ (.inl rfl) h R hd
    · rename_i g
      rw [if_neg g]
      rcases go_ok h with ⟨e, _, h2⟩ | ⟨p, s1, h1, h2⟩
      · cases h2
      · obtain ⟨t1, A1, B1, r1, R1⟩ := ih _ _ _ _ _ _ _ _ _ (.inl rfl) h1 R hd
        rw [r1]
        exact ih _ _ _ _ _ _ _ _ _ (.inl rfl) h2 R1 (by have := rd_len h1; omega)
  | n + 1, .loop lv p, m', d, s, t, A, B, l, s', hm, h, R, hd => by
    obtain rfl : _ = m' := by
      rcases hm with h | ⟨_, _, _, h, _⟩
      · exact h
      · cases h
    have ih := rd_sim he hz k n
    rw [rd] at h
    unfold Sims
    rw [rd, ← R.op he hz lv]
    cases ho : opAt lv s.tok with
    | none =>
      rw [ho] at h
      injection h with h
      injection h with h
      injection h with h1 h2
      subst h1 h2
      exact ⟨t, A, B, rfl, R⟩
    | some op =>
      rw [ho] at h
      have hk := sees_pos (opAt_sees ho)
      have hln := next_len hk
      obtain ⟨a, A', b, B', _, _, hc, RN⟩ := R.step he hk
      have hrn := RN.len
      rcases go_ok h with ⟨e, _, h2⟩ | ⟨q, s1, h1, h2⟩
      · cases h2
      · obtain ⟨t1, A1, B1, r1, R1⟩ := ih _ _ _ _ _ _ _ _ _ (.inl rfl) h1 RN (by omega)
        show ∃ t' A' B', Out.go (rd n (.chain (lv + 1)) (d + k) t.next) _ = _ ∧ _
        rw [r1]
        rcases go_ok h2 with ⟨e, _, h3⟩ | ⟨kk, s2, h3, h4⟩
        · cases h3
        · injection h3 with h3
          obtain ⟨t2, r2, R2⟩ := lay_sim (y := En 5 [p, hd1 q] op ⟨#[]⟩ t.tok.place) R1 h3 rfl
          show ∃ t' A' B', Out.go (some (lay _ t1)) _ = _ ∧ _
          rw [r2]
          show ∃ t' A' B', (if lv = 2 then some (Except.ok (kk, t2)) else _) = _ ∧ _
          split at h4
          · rename_i g
            rw [if_pos g]
            injection h4 with h4
            injection h4 with h4
            injection h4 with h5 h6
            subst h5 h6
            exact ⟨t2, A1, B1, rfl, R2⟩
          · rename_i g
            rw [if_neg g]
            have e2 := (lay_slack h3).2.1
            exact ih _ _ _ _ _ _ _ _ _ (.inl rfl) h4 R2 (by have := rd_len h1; rw [e2]; omega)
  | n + 1, .front, m', d, s, t, A, B, l, s', hm, h, R, hd => by
    obtain rfl : _ = m' := by
      rcases hm with h | ⟨_, _, _, h, _⟩
      · exact h
      · cases h
    have ih := rd_sim he hz k n
    rw [rd] at h
    unfold Sims
    rw [rd, ← R.is he hz minus (by decide), ← R.is he hz bang (by decide)]
    split at h
    · rename_i g
      rw [if_pos g]
      have hk : s.tok.kind ≠ 0 := by
        rw [Bool.or_eq_true] at g
        rcases g with g | g
        · exact sees_pos g
        · exact sees_pos g
      have hln := next_len hk
      obtain ⟨a, A', b, B', _, _, hc, RN⟩ := R.step he hk
      have hrn := RN.len
      split at h
      · cases h
      · rw [if_neg (by omega)]
        rcases go_ok h with ⟨e, _, h2⟩ | ⟨q, s1, h1, h2⟩
        · cases h2
        · obtain ⟨t1, A1, B1, r1, R1⟩ := ih _ _ _ _ _ _ _ _ _ (.inl rfl) h1 RN (by omega)
          rw [show d + k + 1 = d + 1 + k by omega, r1]
          injection h2 with h2
          obtain ⟨t2, r2, R2⟩ := lay_sim (y := En (if s.is minus then 6 else 7) [hd1 q] 0 ⟨#[]⟩ t.tok.place) R1 h2 rfl
          exact ⟨t2, A1, B1, congrArg some r2, R2⟩
    · rename_i g
      rw [if_neg g]
      exact ih _ _ _ _ _ _ _ _ _ (.inl rfl) h R hd
  | n + 1, .idx, m', d, s, t, A, B, l, s', hm, h, R, hd => by
    obtain rfl : _ = m' := by
      rcases hm with h | ⟨_, _, _, h, _⟩
      · exact h
      · cases h
    have ih := rd_sim he hz k n
    rw [rd] at h
    unfold Sims
    rw [rd]
    rcases go_ok h with ⟨e, _, h2⟩ | ⟨p, s1, h1, h2⟩
    · cases h2
    · obtain ⟨t1, A1, B1, r1, R1⟩ := ih _ _ _ _ _ _ _ _ _ (.inl rfl) h1 R hd
      rw [r1]
      exact ih _ _ _ _ _ _ _ _ _ (.inl rfl) h2 R1 (by have := rd_len h1; omega)
  | n + 1, .more p, m', d, s, t, A, B, l, s', hm, h, R, hd => by
    obtain rfl : _ = m' := by
      rcases hm with h | ⟨_, _, _, h, _⟩
      · exact h
      · cases h
    have ih := rd_sim he hz k n
    rw [rd] at h
    unfold Sims
    rw [rd, ← R.is he hz lb (by decide)]
    split at h
    · rename_i g
      rw [if_pos g]
      rcases go_ok h with ⟨e, _, h2⟩ | ⟨q, s1, h1, h2⟩
      · cases h2
      · obtain ⟨t1, A1, B1, r1, R1⟩ := ih _ _ _ _ _ _ _ _ _ (.inl rfl) h1 R hd
        rw [r1]
        rcases go_ok h2 with ⟨e, _, h3⟩ | ⟨kk, s2, h3, h4⟩
        · cases h3
        · injection h3 with h3
          obtain ⟨t2, r2, R2⟩ := lay_sim (y := En 8 [p, hd1 q] 0 ⟨#[]⟩ t.tok.place) R1 h3 rfl
          show ∃ t' A' B', Out.go (some (lay _ t1)) _ = _ ∧ _
          rw [r2]
          have e2 := (lay_slack h3).2.1
          exact ih _ _ _ _ _ _ _ _ _ (.inl rfl) h4 R2 (by have := rd_len h1; rw [e2]; omega)
    · rename_i g
      rw [if_neg g]
      injection h with h
      injection h with h
      injection h with h1 h2
      subst h1 h2
      exact ⟨t, A, B, rfl, R⟩
  | n + 1, .inner a b, m', d, s, t, A, B, l, s', hm, h, R, hd => by
    obtain rfl : _ = m' := by
      rcases hm with h | ⟨_, _, _, h, _⟩
      · exact h
      · cases h
    have ih := rd_sim he hz k n
    rw [rd] at h
    unfold Sims
    rw [rd]
    split at h
    · rename_i g
      have hk := sees_pos g
      have hln := next_len hk
      obtain ⟨a', A', b', B', _, _, hc, RN⟩ := R.step he hk
      have hrn := RN.len
      have g' : t.is a = true := by unfold PS.is; rw [← sees_core hc]; exact g
      rw [if_pos g']
      split at h
      · cases h
      · rw [if_neg (by omega)]
        rcases go_ok h with ⟨e, _, h2⟩ | ⟨q, s1, h1, h2⟩
        · cases h2
        · obtain ⟨t1, A1, B1, r1, R1⟩ := ih _ _ _ _ _ _ _ _ _ (.inl rfl) h1 RN (by omega)
          rw [show d + k + 1 = d + 1 + k by omega, r1]
          show ∃ t' A' B', (if t1.is b then some (Except.ok (q, t1.next)) else _) = _ ∧ _
          split at h2
          · rename_i g2
            obtain ⟨a2, A2, b2, B2, _, _, hc2, RN2⟩ := R1.step he (sees_pos g2)
            have g2' : t1.is b = true := by unfold PS.is; rw [← sees_core hc2]; exact g2
            rw [if_pos g2']
            injection h2 with h2
            injection h2 with h2
            injection h2 with h5 h6
            subst h5 h6
            exact ⟨t1.next, A2, B2, rfl, RN2⟩
          · cases h2
    · cases h
  | n + 1, .call nm at_, m', d, s, t, A, B, l, s', hm, h, R, hd => by
    obtain ⟨at', rfl⟩ : ∃ at', m' = .call nm at' := by
      rcases hm with h | ⟨nm2, a1, a2, h1, h2⟩
      · exact ⟨at_, h.symm⟩
      · injection h1 with h3 h4
        subst h3
        exact ⟨a2, h2⟩
    · skip
      have ih := rd_sim he hz k n
      rw [rd] at h
      unfold Sims
      rw [rd]
      split at h
      · rename_i g
        have hk := sees_pos g
        have hln := next_len hk
        obtain ⟨a', A', b', B', _, _, hc, RN⟩ := R.step he hk
        have hrn := RN.len
        have g' : t.is lp = true := by unfold PS.is; rw [← sees_core hc]; exact g
        rw [if_pos g']
        split at h
        · cases h
        · rw [if_neg (by omega)]
          rcases go_ok h with ⟨e, _, h2⟩ | ⟨q, s1, h1, h2⟩
          · cases h2
          · have hmid : ∃ t1 A1 B1, (if t.next.is rp then some (.ok ([], t.next)) else rd n (.args []) (d + k + 1) t.next) = some (.ok (q, t1)) ∧ Rel e z rest A1 B1 s1 t1 ∧ s1.r.length ≤ s.next.r.length := by
              split at h1
              · rename_i g3
                obtain ⟨a3, A3, b3, B3, _, _, hc3, RN3⟩ := RN.step he (sees_pos g3)
                have g3' : t.next.is rp = true := by unfold PS.is; rw [← sees_core hc3]; exact g3
                rw [if_pos g3']
                injection h1 with h1
                injection h1 with h1
                injection h1 with h5 h6
                subst h5 h6
                exact ⟨t.next, _, _, rfl, RN, Nat.le_refl _⟩
              · rename_i g3
                have hk3 := rd_some _ _ _ _ _ h1 (fun _ _ e => by cases e) (fun _ e => by cases e)
                obtain ⟨a3, A3, b3, B3, _, _, hc3, RN3⟩ := RN.step he hk3
                have g3' : ¬ t.next.is rp = true := by unfold PS.is; rw [← sees_core hc3]; exact g3
                rw [if_neg g3']
                obtain ⟨t1, A1, B1, r1, R1⟩ := ih _ _ _ _ _ _ _ _ _ (.inl rfl) h1 RN (by omega)
                exact ⟨t1, A1, B1, by rw [show d + k + 1 = d + 1 + k by omega]; exact r1, R1, rd_len h1⟩
            obtain ⟨t1, A1, B1, r1, R1, hl1⟩ := hmid
            rw [r1]
            show ∃ t' A' B', (if t1.is rp then some (lay _ t1.next) else _) = _ ∧ _
            split at h2
            · rename_i g2
              obtain ⟨a2, A2, b2, B2, _, _, hc2, RN2⟩ := R1.step he (sees_pos g2)
              have g2' : t1.is rp = true := by unfold PS.is; rw [← sees_core hc2]; exact g2
              rw [if_pos g2']
              injection h2 with h2
              obtain ⟨t2, r2, R2⟩ := lay_sim (y := En 11 q 0 nm at') RN2 h2 rfl
              exact ⟨t2, A2, B2, congrArg some r2, R2⟩
            · cases h2
      · cases h
  | n + 1, .args acc, m', d, s, t, A, B, l, s', hm, h, R, hd => by
    obtain rfl : _ = m' := by
      rcases hm with h | ⟨_, _, _, h, _⟩
      · exact h
      · cases h
    have ih := rd_sim he hz k n
    rw [rd] at h
    unfold Sims
    rw [rd]
    split at h
    · cases h
    · rename_i g
      rw [if_neg g]
      rcases go_ok h with ⟨e, _, h2⟩ | ⟨p, s1, h1, h2⟩
      · cases h2
      · obtain ⟨t1, A1, B1, r1, R1⟩ := ih _ _ _ _ _ _ _ _ _ (.inl rfl) h1 R hd
        rw [r1]
        show ∃ t' A' B', (if t1.is comma then _ else _) = _ ∧ _
        rw [← R1.is he hz comma (by decide)]
        have hl1 := rd_len h1
        split at h2
        · rename_i g2
          rw [if_pos g2]
          have hk2 := sees_pos g2
          have hln := next_len hk2
          obtain ⟨a2, A2, b2, B2, _, _, hc2, RN2⟩ := R1.step he hk2
          exact ih _ _ _ _ _ _ _ _ _ (.inl rfl) h2 RN2 (by omega)
        · rename_i g2
          rw [if_neg g2]
          injection h2 with h2
          injection h2 with h2
          injection h2 with h5 h6
          subst h5 h6
          exact ⟨t1, A1, B1, rfl, R1⟩
  | n + 1, .single, m', d, s, t, A, B, l, s', hm, h, R, hd => by
    obtain rfl : _ = m' := by
      rcases hm with h | ⟨_, _, _, h, _⟩
      · exact h
      · cases h
    have ih := rd_sim he hz k n
    have hk := rd_some _ _ _ _ _ h (fun _ _ e => by cases e) (fun _ e => by cases e)
    have hln := next_len hk
    obtain ⟨a, A', b, B', _, _, hc, RN⟩ := R.step he hk
    have hrn := RN.len
    rw [rd_single] at h
    unfold Sims
    rw [rd_single, ← sg_core hc]
    have hn : s.tok.n = t.tok.n := by have := congrArg Tk.n hc; exact this
    have ht : s.tok.text = t.tok.text := by have := congrArg Tk.text hc; exact this
    have leaf : ∀ x y, ncore x = ncore y → some (lay x s.next) = some (.ok (l, s')) → ∃ t' A' B', some (lay y t.next) = some (.ok (l, t')) ∧ Rel e z rest A' B' s' t' := by
      intro x y hxy hx
      injection hx with hx
      obtain ⟨t2, r2, R2⟩ := lay_sim (y := y) RN hx hxy
      exact ⟨t2, _, _, congrArg some r2, R2⟩
    have arnd : ∀ K, (Out.go (rd n (.inner lp rp) d s.next) fun q s1 => some (lay (En K [hd1 q] 0 ⟨#[]⟩ s.tok.place) s1)) = some (.ok (l, s')) → ∃ t' A' B', (Out.go (rd n (.inner lp rp) (d + k) t.next) fun q s1 => some (lay (En K [hd1 q] 0 ⟨#[]⟩ t.tok.place) s1)) = some (.ok (l, t')) ∧ Rel e z rest A' B' s' t' := by
      intro K hx
      rcases go_ok hx with ⟨e, _, h2⟩ | ⟨q, s1, h1, h2⟩
      · cases h2
      · obtain ⟨t1, A1, B1, r1, R1⟩ := ih _ _ _ _ _ _ _ _ _ (.inl rfl) h1 RN (by omega)
        rw [r1]
        injection h2 with h2
        obtain ⟨t2, r2, R2⟩ := lay_sim (y := En K [hd1 q] 0 ⟨#[]⟩ t.tok.place) R1 h2 rfl
        exact ⟨t2, A1, B1, congrArg some r2, R2⟩
    split at h
    · rename_i hg; exact ih _ _ _ _ _ _ _ _ _ (.inl rfl) h R hd
    · rename_i hg; exact leaf _ _ (by rfl) h
    · rename_i hg; exact leaf _ _ (by rfl) h
    · rename_i hg; exact leaf _ _ (by rfl) h
    · rename_i hg; exact arnd _ h
    · rename_i hg; exact arnd _ h
    · rename_i hg; exact leaf _ _ (by rw [hn]; rfl) h
    · rename_i hg
      show ∃ t' A' B', (if t.next.is lp then _ else _) = _ ∧ _
      rw [← RN.is he hz lp (by decide)]
      split at h
      · rename_i g2
        rw [if_pos g2]
        exact ih _ _ _ _ _ _ _ _ _ (.inr ⟨_, s.tok.place, t.tok.place, rfl, by rw [ht]⟩) h RN (by omega)
      · rename_i g2
        rw [if_neg g2]
        exact leaf _ _ (by rw [ht]; rfl) h
    · cases h
/-- what is read of a text's tokens is read where other things stand behind, at more levels -/
theorem reads_sim (he : e.kind = 0) (hz : shuts z) {k : Nat} {A B rest : List Tk} (hal : A.map tcore = B.map tcore) (hpos : ∀ a ∈ A, a.kind ≠ 0) (hk : k + A.length ≤ 200) {l : List Int} {s' : PS} (h : Reads (.chain 0) 0 ⟨A ++ [e], [], []⟩ (.ok (l, s'))) (h0 : s'.tok.kind = 0) :
    ∃ t', Reads (.chain 0) k ⟨B ++ z :: rest, [], []⟩ (.ok (l, t')) ∧ t'.r = z :: rest ∧ s'.l.map ncore = t'.l.map ncore := by
  obtain ⟨n, hn⟩ := h
  obtain ⟨t', A', B', r, R⟩ := rd_sim (e := e) (z := z) (rest := rest) he hz k n (.chain 0) (.chain 0) 0 ⟨A ++ [e], [], []⟩ ⟨B ++ z :: rest, [], []⟩ A B l s' (.inl rfl) hn ⟨rfl, rfl, hal, hpos, rfl, rfl⟩ (by show 0 + k + (A ++ [e]).length ≤ 201; rw [List.length_append]; show 0 + k + (A.length + 1) ≤ 201; omega)
  rw [Nat.zero_add] at r
  refine ⟨t', ⟨n, r⟩, ?_, R.l⟩
  rcases R.two with ⟨_, hB, _, _⟩ | ⟨a, A2, b, B2, hA, _, _, h1, _, _⟩
  · rw [R.tr, hB]; rfl
  · exact absurd (by rw [← h1]; exact h0) (R.pos a (by rw [hA]; exact List.mem_cons_self ..))
end Go.Proofs.YtagacfcpepoaoaaDoor
