/- As many brackets, signs in front, operators and indexes as there may be, and one more: by the document's words. No program. -/
import Derived.Test.YtnmeijcaaohnpaaDoorExprRules
namespace Go.Proofs.YtnmeijcaaohnpaaDoor
set_option linter.unusedVariables false

/-- tokens of one byte each -/
def tk1 (c : UInt8) (p : Nat) : Tk := if c = 120 then ⟨1, [120], 0, p⟩ else ⟨4, [c], 0, p⟩
def toks : List UInt8 → Nat → List Tk
  | [], p => [⟨0, [], 0, p⟩]
  | c :: r, p => tk1 c p :: toks r (p + 1)
/-- bytes of which each is a token -/
def plainC (c : UInt8) : Bool := c == 40 || c == 41 || c == 45 || c == 43 || c == 91 || c == 93 || c == 120
def apartB : List UInt8 → Bool
  | [] => true
  | c :: r => plainC c && (c != 120 || r.headD 0 != 120) && apartB r
theorem plain_cases {c : UInt8} (h : plainC c = true) : c = 40 ∨ c = 41 ∨ c = 45 ∨ c = 43 ∨ c = 91 ∨ c = 93 ∨ c = 120 := by
  unfold plainC at h
  simp only [Bool.or_eq_true, beq_iff_eq] at h
  rcases h with (((((h | h) | h) | h) | h) | h) | h
  · exact .inl h
  · exact .inr (.inl h)
  · exact .inr (.inr (.inl h))
  · exact .inr (.inr (.inr (.inl h)))
  · exact .inr (.inr (.inr (.inr (.inl h))))
  · exact .inr (.inr (.inr (.inr (.inr (.inl h)))))
  · exact .inr (.inr (.inr (.inr (.inr (.inr h)))))
theorem skp_plain {r : List UInt8} (h : apartB r = true) : skp false r = 0 := by
  cases r with
  | nil => rfl
  | cons c cs =>
    unfold apartB at h
    simp only [Bool.and_eq_true] at h
    rcases plain_cases h.1.1 with rfl | rfl | rfl | rfl | rfl | rfl | rfl <;> rfl
theorem rn_plain {r : List UInt8} (h : apartB r = true) (hx : r.headD 0 ≠ 120) : rn isWb r = 0 := by
  cases r with
  | nil => rfl
  | cons c cs =>
    unfold apartB at h
    simp only [Bool.and_eq_true] at h
    rcases plain_cases h.1.1 with rfl | rfl | rfl | rfl | rfl | rfl | rfl
    · rfl
    · rfl
    · rfl
    · rfl
    · rfl
    · rfl
    · exact absurd rfl hx
theorem bt_plain {r : List UInt8} (h : apartB r = true) : bt r 0 ≠ 37 := by
  cases r with
  | nil => show (0 : UInt8).toNat ≠ 37; decide
  | cons c cs =>
    unfold apartB at h
    simp only [Bool.and_eq_true] at h
    show c.toNat ≠ 37
    rcases plain_cases h.1.1 with rfl | rfl | rfl | rfl | rfl | rfl | rfl <;> decide
theorem S_plain : ∀ (R : List UInt8) (p : Nat), apartB R = true → S R p = .ok (toks R p)
  | [], p, _ => rfl
  | c :: r, p, h => by
    have h' := h
    unfold apartB at h'
    simp only [Bool.and_eq_true] at h'
    obtain ⟨⟨hc, hx⟩, hr⟩ := h'
    have ih := S_plain r (p + 1) hr
    have hz := skp_plain hr
    have hb := bt_plain hr
    have key : ln (c :: r) = 1 ∧ er (c :: r) = 0 ∧ tk (c :: r) p = tk1 c p := by
      rcases plain_cases hc with rfl | rfl | rfl | rfl | rfl | rfl | rfl
      · exact ⟨rfl, rfl, rfl⟩
      · exact ⟨rfl, rfl, rfl⟩
      · have e : ln (45 :: r) = 1 := by show (if bt r 0 = 37 then 2 else 1) = 1; rw [if_neg hb]
        exact ⟨e, by unfold er; rw [e]; rfl, by unfold tk; rw [e]; rfl⟩
      · have e : ln (43 :: r) = 1 := by show (if bt r 0 = 37 then 2 else 1) = 1; rw [if_neg hb]
        exact ⟨e, by unfold er; rw [e]; rfl, by unfold tk; rw [e]; rfl⟩
      · exact ⟨rfl, rfl, rfl⟩
      · exact ⟨rfl, rfl, rfl⟩
      · have hx' : r.headD 0 ≠ 120 := by simpa using hx
        have e : ln (120 :: r) = 1 := by show 1 + rn isWb r = 1; rw [rn_plain hr hx']
        exact ⟨e, by unfold er; rw [e]; rfl, by unfold tk; rw [e]; rfl⟩
    obtain ⟨hl, he, ht⟩ := key
    have ho : off (c :: r) = 1 := by unfold off; rw [hl]; show 1 + skp false r = 1; rw [hz]
    rw [S_tok p (by simp) he, ht]
    have hn : nxt (c :: r) = r := by unfold nxt; rw [ho]; rfl
    rw [hn, ho, ih]
    rfl
theorem T_plain {R : List UInt8} (h : apartB R = true) : T R 0 = .ok (toks R 0) := by
  unfold T
  rw [skp_plain h]
  exact S_plain R 0 h
/-- a reader before such tokens -/
def st (R : List UInt8) (p : Nat) (l : List Nd) (h : List Nat) : PS := ⟨toks R p, l, h⟩
/-- what may stand behind an expression -/
def closZ (Z : List UInt8) : Prop := Z = [] ∨ ∃ r, Z = 41 :: r ∨ Z = 93 :: r
theorem clos_op {Z : List UInt8} (hz : closZ Z) {p : Nat} {l : List Nd} {h : List Nat} : ∀ lv, lv < 5 → opAt lv (st Z p l h).tok = none := by
  intro lv hlv
  have : lv = 0 ∨ lv = 1 ∨ lv = 2 ∨ lv = 3 ∨ lv = 4 := by omega
  rcases hz with rfl | ⟨r, rfl | rfl⟩ <;> rcases this with rfl | rfl | rfl | rfl | rfl <;> rfl
theorem clos_lb {Z : List UInt8} (hz : closZ Z) {p : Nat} {l : List Nd} {h : List Nat} : (st Z p l h).is lb = false := by
  rcases hz with rfl | ⟨r, rfl | rfl⟩ <;> rfl
theorem clos_lp {Z : List UInt8} (hz : closZ Z) {p : Nat} {l : List Nd} {h : List Nat} : (st Z p l h).is lp = false := by
  rcases hz with rfl | ⟨r, rfl | rfl⟩ <;> rfl
variable {d p : Nat} {s s1 : PS} {k : Int} {f : Flt} {l : List Nd} {h : List Nat}
theorem up4 (g : Reads .front d s (.ok ([k], s1))) (ho : opAt 4 s1.tok = none) : Reads (.chain 4) d s (.ok ([k], s1)) := .chain (by decide) (.chain5 g) (.loop_end ho)
theorem up0 (g : Reads .front d s (.ok ([k], s1))) (ho : ∀ lv, lv < 5 → opAt lv s1.tok = none) : Reads (.chain 0) d s (.ok ([k], s1)) :=
  .chain (by decide) (.chain (by decide) (.chain (by decide) (.chain (by decide) (up4 g (ho 4 (by omega))) (.loop_end (ho 3 (by omega)))) (.loop_end (ho 2 (by omega)))) (.loop_end (ho 1 (by omega)))) (.loop_end (ho 0 (by omega)))
theorem up_err (g : Reads .front d s (.error f)) : Reads (.chain 0) d s (.error f) :=
  .chain_err (by decide) (.chain_err (by decide) (.chain_err (by decide) (.chain_err (by decide) (.chain_err (by decide) (.chain5 g)))))
theorem lay_ok {x : Nd} {s : PS} {t : Nat} (ht : high s.h x.kids = t) (h2 : t ≤ 200) : lay x s = .ok ([(s.l.length : Int)], ⟨s.r, s.l ++ [x], s.h ++ [t]⟩) := by
  unfold lay
  rw [ht, if_neg (by omega)]
theorem lay_no {x : Nd} {s : PS} {t : Nat} (ht : high s.h x.kids = t) (h2 : 200 < t) : lay x s = .error (4, x.at_.toNat) := by
  unfold lay
  rw [ht, if_pos h2]
theorem high1 {h : List Nat} {a : Nat} (ha : a < h.length) : high h [(a : Int)] = h.getD a 0 + 1 := by
  show hstep h 1 (a : Int) = _
  unfold hstep
  rw [if_pos ⟨by omega, by omega⟩, Int.toNat_natCast]
  omega
theorem high2 {h : List Nat} {a b : Nat} (ha : a < h.length) (hb : b < h.length) : high h [(a : Int), (b : Int)] = max (h.getD a 0) (h.getD b 0) + 1 := by
  show hstep h (hstep h 1 (a : Int)) (b : Int) = _
  unfold hstep
  rw [if_pos ⟨by omega, by omega⟩, if_pos ⟨by omega, by omega⟩, Int.toNat_natCast, Int.toNat_natCast]
  omega
/-- x -/
theorem leaf (r : List UInt8) (hn : (st r (p + 1) l h).is lp = false) : Reads .single d (st (120 :: r) p l h) (.ok ([(l.length : Int)], st r (p + 1) (l ++ [En 4 [] 0 ⟨#[120]⟩ p]) (h ++ [1]))) := by
  have g := Reads.single_var (d := d) (s := st (120 :: r) p l h) rfl hn
  have e : lay (En 4 [] 0 ⟨(st (120 :: r) p l h).tok.text.toArray⟩ (st (120 :: r) p l h).tok.place) (st (120 :: r) p l h).next = .ok ([(l.length : Int)], st r (p + 1) (l ++ [En 4 [] 0 ⟨#[120]⟩ p]) (h ++ [1])) := lay_ok rfl (by omega)
  rw [e] at g
  exact g
theorem leaf_front (r : List UInt8) (hn : (st r (p + 1) l h).is lp = false) (hb : (st r (p + 1) l h).is lb = false) : Reads .front d (st (120 :: r) p l h) (.ok ([(l.length : Int)], st r (p + 1) (l ++ [En 4 [] 0 ⟨#[120]⟩ p]) (h ++ [1]))) :=
  .front_none rfl rfl (.idx (leaf r hn) (.more_end hb))
theorem getD_last {h : List Nat} {t : Nat} : (h ++ [t]).getD h.length 0 = t := by
  rw [List.getD_eq_getElem?_getD, List.getElem?_append_right (Nat.le_refl _), Nat.sub_self]; rfl
theorem getD_left {h r : List Nat} {i : Nat} (hi : i < h.length) : (h ++ r).getD i 0 = h.getD i 0 := by
  rw [List.getD_eq_getElem?_getD, List.getD_eq_getElem?_getD, List.getElem?_append_left hi]
/-- n times a byte -/
def rep (c : UInt8) (n : Nat) : List UInt8 := List.replicate n c
theorem rep_succ (c : UInt8) (n : Nat) : rep c (n + 1) = c :: rep c n := rfl
theorem rep_snoc (c : UInt8) (n : Nat) (Z : List UInt8) : rep c (n + 1) ++ Z = rep c n ++ c :: Z := by
  induction n with
  | zero => rfl
  | succ n ih => rw [rep_succ, List.cons_append, ih, rep_succ, List.cons_append]
/-- brackets -/
theorem br_ok : ∀ (j d p : Nat) (Z : List UInt8) (l : List Nd) (h : List Nat), d + j ≤ 200 → closZ Z → ∃ (k : Int) (q : Nat) (l' : List Nd) (h' : List Nat), Reads (.chain 0) d (st (rep 40 j ++ 120 :: (rep 41 j ++ Z)) p l h) (.ok ([k], st Z q l' h'))
  | 0, d, p, Z, l, h, _, hz => ⟨_, _, _, _, up0 (leaf_front Z (clos_lp hz) (clos_lb hz)) (clos_op hz)⟩
  | j + 1, d, p, Z, l, h, hd, hz => by
    obtain ⟨k, q, l', h', ih⟩ := br_ok j (d + 1) (p + 1) (41 :: Z) l h (by omega) (.inr ⟨Z, .inl rfl⟩)
    rw [← rep_snoc] at ih
    exact ⟨k, q + 1, l', h', up0 (.front_none rfl rfl (.idx (.single_in rfl (.inner_ok rfl (by omega) ih rfl)) (.more_end (clos_lb hz)))) (clos_op hz)⟩
theorem br_no : ∀ (j d p : Nat) (Z : List UInt8) (l : List Nd) (h : List Nat), d ≤ 200 → 200 < d + j → ∃ q, Reads (.chain 0) d (st (rep 40 j ++ Z) p l h) (.error (4, q))
  | 0, d, p, Z, l, h, h1, h2 => by omega
  | j + 1, d, p, Z, l, h, h1, h2 => by
    by_cases e : d = 200
    · exact ⟨_, up_err (.front_none rfl rfl (.idx_err (.single_in rfl (.inner_deep rfl (by omega)))))⟩
    · obtain ⟨q, ih⟩ := br_no j (d + 1) (p + 1) Z l h (by omega) (by omega)
      exact ⟨q, up_err (.front_none rfl rfl (.idx_err (.single_in rfl (.inner_err rfl (by omega) ih))))⟩
/-- signs in front -/
theorem mi_ok : ∀ (j d p : Nat) (l : List Nd) (h : List Nat), d + j ≤ 200 → j + 1 ≤ 200 → h.length = l.length → ∃ (k q : Nat) (l' : List Nd) (h' : List Nat), Reads .front d (st (rep 45 j ++ [120]) p l h) (.ok ([(k : Int)], st [] q l' h')) ∧ k < h'.length ∧ h'.getD k 0 = j + 1 ∧ h'.length = l'.length
  | 0, d, p, l, h, _, _, hl => ⟨l.length, p + 1, _, _, leaf_front [] rfl rfl, by rw [List.length_append, hl]; exact Nat.lt_succ_self _, by rw [← hl]; exact getD_last, by rw [List.length_append, List.length_append, hl]; rfl⟩
  | j + 1, d, p, l, h, hd, hj, hl => by
    obtain ⟨k, q, l', h', ih, hk, ht, hll⟩ := mi_ok j (d + 1) (p + 1) l h (by omega) (by omega) hl
    have g := Reads.front_lay (s := st (rep 45 (j + 1) ++ [120]) p l h) (.inl rfl) (by omega) ih
    have e := lay_ok (x := En (if (st (rep 45 (j + 1) ++ [120]) p l h).is minus then 6 else 7) [(k : Int)] 0 ⟨#[]⟩ (st (rep 45 (j + 1) ++ [120]) p l h).tok.place) (s := st [] q l' h') (t := j + 2) (by rw [show (En _ [(k : Int)] 0 ⟨#[]⟩ _).kids = [(k : Int)] from rfl]; show high h' _ = _; rw [high1 hk, ht]) (by omega)
    rw [e] at g
    refine ⟨l'.length, q, _, _, g, ?_, ?_, ?_⟩
    · show l'.length < (h' ++ [j + 2]).length
      rw [List.length_append, hll]; exact Nat.lt_succ_self _
    · show (h' ++ [j + 2]).getD l'.length 0 = _
      rw [← hll]; exact getD_last
    · show (h' ++ [j + 2]).length = _
      rw [List.length_append, List.length_append, hll]; rfl
theorem mi_no : ∀ (j d p : Nat) (l : List Nd) (h : List Nat), d ≤ 200 → (200 < d + j ∨ 200 < j + 1) → h.length = l.length → ∃ q, Reads .front d (st (rep 45 j ++ [120]) p l h) (.error (4, q))
  | 0, d, p, l, h, h1, h2, _ => by omega
  | j + 1, d, p, l, h, h1, h2, hl => by
    by_cases e : d = 200
    · exact ⟨_, .front_deep (.inl rfl) (by omega)⟩
    · by_cases g : 200 < d + 1 + j ∨ 200 < j + 1
      · obtain ⟨q, ih⟩ := mi_no j (d + 1) (p + 1) l h (by omega) g hl
        exact ⟨q, .front_err (.inl rfl) (by omega) ih⟩
      · obtain ⟨k, q, l', h', ih, hk, ht, hll⟩ := mi_ok j (d + 1) (p + 1) l h (by omega) (by omega) hl
        have g := Reads.front_lay (s := st (rep 45 (j + 1) ++ [120]) p l h) (.inl rfl) (by omega) ih
        have e := lay_no (x := En (if (st (rep 45 (j + 1) ++ [120]) p l h).is minus then 6 else 7) [(k : Int)] 0 ⟨#[]⟩ (st (rep 45 (j + 1) ++ [120]) p l h).tok.place) (s := st [] q l' h') (t := j + 2) (by rw [show (En _ [(k : Int)] 0 ⟨#[]⟩ _).kids = [(k : Int)] from rfl]; show high h' _ = _; rw [high1 hk, ht]) (by omega)
        rw [e] at g
        exact ⟨_, g⟩
/-- operators -/
def pls : Nat → List UInt8
  | 0 => []
  | j + 1 => 43 :: 120 :: pls j
theorem pls_head (j : Nat) {p : Nat} {l : List Nd} {h : List Nat} : (st (pls j) p l h).is lp = false ∧ (st (pls j) p l h).is lb = false ∧ opAt 4 (st (pls j) p l h).tok = none := by
  cases j with
  | zero => exact ⟨rfl, rfl, rfl⟩
  | succ j => exact ⟨rfl, rfl, rfl⟩
theorem pl_all : ∀ (j p k : Nat) (l : List Nd) (h : List Nat), h.length = l.length → k < h.length → 1 ≤ h.getD k 0 → h.getD k 0 ≤ 200 →
    (h.getD k 0 + j ≤ 200 → ∃ (k' : Int) (q : Nat) (l' : List Nd) (h' : List Nat), Reads (.loop 3 (k : Int)) 0 (st (pls j) p l h) (.ok ([k'], st [] q l' h'))) ∧ (200 < h.getD k 0 + j → ∃ q, Reads (.loop 3 (k : Int)) 0 (st (pls j) p l h) (.error (4, q)))
  | 0, p, k, l, h, hl, hk, h1, h2 => ⟨fun _ => ⟨_, _, _, _, .loop_end rfl⟩, fun h => by omega⟩
  | j + 1, p, k, l, h, hl, hk, h1, h2 => by
    obtain ⟨e1, e2, e3⟩ := pls_head j (p := p + 2) (l := l) (h := h)
    have hr := up4 (d := 0) (leaf_front (p := p + 1) (l := l) (h := h) (pls j) e1 e2) e3
    have hk' : k < (h ++ [1]).length := by rw [List.length_append]; exact Nat.lt_succ_of_lt hk
    have hb' : l.length < (h ++ [1]).length := by rw [List.length_append, hl]; exact Nat.lt_succ_self _
    have hh : high (h ++ [1]) [(k : Int), (l.length : Int)] = h.getD k 0 + 1 := by
      rw [high2 hk' hb', getD_left hk, ← hl, getD_last]
      omega
    have hop : opAt 3 (st (pls (j + 1)) p l h).tok = some 9 := rfl
    by_cases g : h.getD k 0 + 1 ≤ 200
    · have e := lay_ok (x := En 5 [(k : Int), (l.length : Int)] 9 ⟨#[]⟩ (st (pls (j + 1)) p l h).tok.place) (s := st (pls j) (p + 2) (l ++ [En 4 [] 0 ⟨#[120]⟩ ((p + 1 : Nat) : Int)]) (h ++ [1])) hh g
      have ih := pl_all j (p + 2) (l.length + 1) (l ++ [En 4 [] 0 ⟨#[120]⟩ ((p + 1 : Nat) : Int)] ++ [En 5 [(k : Int), (l.length : Int)] 9 ⟨#[]⟩ (st (pls (j + 1)) p l h).tok.place]) (h ++ [1] ++ [h.getD k 0 + 1]) (by simp [hl]) (by simp [hl])
      have hlast : (h ++ [1] ++ [h.getD k 0 + 1]).getD (l.length + 1) 0 = h.getD k 0 + 1 := by
        have := getD_last (h := h ++ [1]) (t := h.getD k 0 + 1)
        rw [List.length_append, hl] at this
        exact this
      rw [hlast] at ih
      have ih' := ih (by omega) g
      have hnx : ∀ v, Reads (.loop 3 ((l.length + 1 : Nat) : Int)) 0 (st (pls j) (p + 2) (l ++ [En 4 [] 0 ⟨#[120]⟩ ((p + 1 : Nat) : Int)] ++ [En 5 [(k : Int), (l.length : Int)] 9 ⟨#[]⟩ (st (pls (j + 1)) p l h).tok.place]) (h ++ [1] ++ [h.getD k 0 + 1])) v → Reads (.loop 3 (k : Int)) 0 (st (pls (j + 1)) p l h) v := by
        intro v hv
        refine Reads.loop_next (k := ((l.length + 1 : Nat) : Int)) (by decide) hop hr ?_ hv
        rw [show ((9 : Nat) : Int) = 9 from rfl, e]
        have : (st (pls j) (p + 2) (l ++ [En 4 [] 0 ⟨#[120]⟩ ((p + 1 : Nat) : Int)]) (h ++ [1])).l.length = l.length + 1 := by show (l ++ [_]).length = _; simp
        rw [this]
        rfl
      refine ⟨fun hj => ?_, fun hj => ?_⟩
      · obtain ⟨k', q, l', h', r⟩ := ih'.1 (by omega)
        exact ⟨k', q, l', h', hnx _ r⟩
      · obtain ⟨q, r⟩ := ih'.2 (by omega)
        exact ⟨q, hnx _ r⟩
    · have e := lay_no (x := En 5 [(k : Int), (l.length : Int)] 9 ⟨#[]⟩ (st (pls (j + 1)) p l h).tok.place) (s := st (pls j) (p + 2) (l ++ [En 4 [] 0 ⟨#[120]⟩ ((p + 1 : Nat) : Int)]) (h ++ [1])) hh (by omega)
      refine ⟨fun hj => by omega, fun hj => ⟨((st (pls (j + 1)) p l h).tok.place : Int).toNat, Reads.loop_high hop hr ?_⟩⟩
      rw [show ((9 : Nat) : Int) = 9 from rfl]
      exact e
/-- indexes -/
def xbs : Nat → List UInt8 → List UInt8
  | 0, Z => Z
  | j + 1, Z => 120 :: 91 :: xbs j Z
theorem ix_all : ∀ (j d p : Nat) (Z : List UInt8) (l : List Nd) (h : List Nat), d ≤ 200 → closZ Z → h.length = l.length →
    (d + j ≤ 200 → j + 1 ≤ 200 → ∃ (k q : Nat) (l' : List Nd) (h' : List Nat), Reads (.chain 0) d (st (xbs j (120 :: (rep 93 j ++ Z))) p l h) (.ok ([(k : Int)], st Z q l' h')) ∧ k < h'.length ∧ h'.getD k 0 = j + 1 ∧ h'.length = l'.length ∧ h.length ≤ h'.length ∧ ∀ i, i < h.length → h'.getD i 0 = h.getD i 0) ∧
    ((200 < d + j ∨ 200 < j + 1) → ∃ q, Reads (.chain 0) d (st (xbs j (120 :: (rep 93 j ++ Z))) p l h) (.error (4, q)))
  | 0, d, p, Z, l, h, hd, hz, hl => ⟨fun _ _ => ⟨l.length, p + 1, _, _, up0 (leaf_front Z (clos_lp hz) (clos_lb hz)) (clos_op hz), by rw [List.length_append, hl]; exact Nat.lt_succ_self _, by rw [← hl]; exact getD_last, by rw [List.length_append, List.length_append, hl]; rfl, by rw [List.length_append]; omega, fun i hi => getD_left hi⟩, fun h => by omega⟩
  | j + 1, d, p, Z, l, h, hd, hz, hl => by
    have hlf := leaf (d := d) (p := p) (l := l) (h := h) (91 :: xbs j (120 :: (rep 93 (j + 1) ++ Z))) rfl
    have hm0 : l.length < (h ++ [1]).length := by rw [List.length_append, hl]; exact Nat.lt_succ_self _
    by_cases e : d = 200
    · refine ⟨fun h => by omega, fun _ => ⟨_, up_err (.front_none rfl rfl (.idx hlf (.more_err rfl (.inner_deep rfl (by omega)))))⟩⟩
    · have hd2 : d < 200 := by omega
      have ih := ix_all j (d + 1) (p + 2) (93 :: Z) (l ++ [En 4 [] 0 ⟨#[120]⟩ p]) (h ++ [1]) (by omega) (.inr ⟨Z, .inr rfl⟩) (by simp [hl])
      rw [← rep_snoc] at ih
      obtain ⟨ih1, ih2⟩ := ih
      by_cases g : 200 < d + 1 + j ∨ 200 < j + 1
      · obtain ⟨q, r⟩ := ih2 g
        clear ih1 ih2
        exact ⟨fun h1 h2 => by omega, fun _ => ⟨q, up_err (.front_none rfl rfl (.idx hlf (.more_err rfl (.inner_err rfl hd2 r))))⟩⟩
      · have g1 : d + 1 + j ≤ 200 := by omega
        have g3 : j + 1 ≤ 200 := by omega
        obtain ⟨k, q, l', h', r, hk, ht, hll, hle, hpre⟩ := ih1 g1 g3
        clear ih1 ih2
        have hin : Reads (.inner lb rb) d (st (91 :: xbs j (120 :: (rep 93 (j + 1) ++ Z))) (p + 1) (l ++ [En 4 [] 0 ⟨#[120]⟩ p]) (h ++ [1])) (.ok ([(k : Int)], st Z (q + 1) l' h')) := Reads.inner_ok (s := st (91 :: xbs j (120 :: (rep 93 (j + 1) ++ Z))) (p + 1) (l ++ [En 4 [] 0 ⟨#[120]⟩ p]) (h ++ [1])) (s1 := st (93 :: Z) q l' h') rfl hd2 r rfl
        have hlt : l.length < h'.length := by omega
        have hh : high h' [(l.length : Int), (k : Int)] = j + 2 := by
          rw [high2 hlt hk, ht, hpre l.length hm0, ← hl, getD_last]
          omega
        by_cases g2 : j + 2 ≤ 200
        · have e := lay_ok (x := En 8 [(l.length : Int), (k : Int)] 0 ⟨#[]⟩ (st (91 :: xbs j (120 :: (rep 93 (j + 1) ++ Z))) (p + 1) (l ++ [En 4 [] 0 ⟨#[120]⟩ p]) (h ++ [1])).tok.place) (s := st Z (q + 1) l' h') hh g2
          refine ⟨fun _ _ => ⟨l'.length, q + 1, _, _, up0 (.front_none rfl rfl (.idx hlf (.more_next rfl hin e (.more_end (clos_lb (h := h' ++ [j + 2]) hz))))) (clos_op hz), ?_, ?_, ?_, ?_, ?_⟩, fun h => by omega⟩
          · show l'.length < (h' ++ [j + 2]).length
            rw [List.length_append, hll]; exact Nat.lt_succ_self _
          · show (h' ++ [j + 2]).getD l'.length 0 = _
            rw [← hll]; exact getD_last
          · show (h' ++ [j + 2]).length = _
            rw [List.length_append, List.length_append, hll]; rfl
          · show h.length ≤ (h' ++ [j + 2]).length
            rw [List.length_append] at hle ⊢; omega
          · intro i hi
            show (h' ++ [j + 2]).getD i 0 = _
            rw [getD_left (by omega), hpre i (by rw [List.length_append]; omega), getD_left hi]
        · have e := lay_no (x := En 8 [(l.length : Int), (k : Int)] 0 ⟨#[]⟩ (st (91 :: xbs j (120 :: (rep 93 (j + 1) ++ Z))) (p + 1) (l ++ [En 4 [] 0 ⟨#[120]⟩ p]) (h ++ [1])).tok.place) (s := st Z (q + 1) l' h') hh (by omega)
          exact ⟨fun _ h => by omega, fun _ => ⟨_, up_err (.front_none rfl rfl (.idx hlf (.more_high rfl hin e)))⟩⟩
end Go.Proofs.YtnmeijcaaohnpaaDoor
