/- ExprBrack, ParseJoin, in one text. -/
import Derived.Test.YtagacfcpepoaoaaDoorMDeep
import Derived.Test.YtagacfcpepoaoaaDoorMTree
import Derived.Test.YtagacfcpepoaoaaDoorMShape
namespace Go.Proofs.YtagacfcpepoaoaaDoor
set_option linter.unusedVariables false

theorem skp_all (Z : List UInt8) : ∀ (b : Bool) (r : List UInt8), skp b r = r.length → skp b (r ++ 10 :: Z) = r.length + 1 + skp false Z
  | true, [], _ => by show 1 + skp false Z = 0 + 1 + skp false Z; omega
  | false, [], _ => by show 1 + skp false Z = 0 + 1 + skp false Z; omega
  | true, c :: cs, h => by
    by_cases g : c.toNat = 10
    · have e : ∀ l, skp true (c :: l) = 1 + skp false l := fun l => if_pos g
      rw [List.cons_append, e, skp_all Z false cs (by rw [e, List.length_cons] at h; omega), List.length_cons]
      omega
    · have e : ∀ l, skp true (c :: l) = 1 + skp true l := fun l => if_neg g
      rw [List.cons_append, e, skp_all Z true cs (by rw [e, List.length_cons] at h; omega), List.length_cons]
      omega
  | false, c :: cs, h => by
    by_cases g : c.toNat = 35
    · have e : ∀ l, skp false (c :: l) = 1 + skp true l := fun l => if_pos g
      rw [List.cons_append, e, skp_all Z true cs (by rw [e, List.length_cons] at h; omega), List.length_cons]
      omega
    · by_cases g2 : isBl c.toNat = true
      · have e : ∀ l, skp false (c :: l) = 1 + skp false l := fun l => (if_neg g).trans (if_pos g2)
        rw [List.cons_append, e, skp_all Z false cs (by rw [e, List.length_cons] at h; omega), List.length_cons]
        omega
      · have e : skp false (c :: cs) = 0 := (if_neg g).trans (if_neg g2)
        rw [e, List.length_cons] at h
        omega
theorem skp_part (Y : List UInt8) : ∀ (b : Bool) (r : List UInt8), skp b r < r.length → skp b (r ++ Y) = skp b r
  | true, [], h => by simp at h
  | false, [], h => by simp at h
  | true, c :: cs, h => by
    by_cases g : c.toNat = 10
    · have e : ∀ l, skp true (c :: l) = 1 + skp false l := fun l => if_pos g
      rw [List.cons_append, e, e, skp_part Y false cs (by rw [e, List.length_cons] at h; omega)]
    · have e : ∀ l, skp true (c :: l) = 1 + skp true l := fun l => if_neg g
      rw [List.cons_append, e, e, skp_part Y true cs (by rw [e, List.length_cons] at h; omega)]
  | false, c :: cs, h => by
    by_cases g : c.toNat = 35
    · have e : ∀ l, skp false (c :: l) = 1 + skp true l := fun l => if_pos g
      rw [List.cons_append, e, e, skp_part Y true cs (by rw [e, List.length_cons] at h; omega)]
    · by_cases g2 : isBl c.toNat = true
      · have e : ∀ l, skp false (c :: l) = 1 + skp false l := fun l => (if_neg g).trans (if_pos g2)
        rw [List.cons_append, e, e, skp_part Y false cs (by rw [e, List.length_cons] at h; omega)]
      · have e : ∀ l, skp false (c :: l) = 0 := fun l => (if_neg g).trans (if_neg g2)
        rw [List.cons_append, e, e]
theorem rn_app {p : Nat → Bool} (hp : p 10 = false) (Z : List UInt8) : ∀ r : List UInt8, rn p (r ++ 10 :: Z) = rn p r
  | [] => by
    show (if p (10 : UInt8).toNat then _ else 0) = 0
    rw [show (10 : UInt8).toNat = 10 from rfl, hp]
    rfl
  | c :: cs => by
    have ih := rn_app hp Z cs
    show (if p c.toNat then 1 + rn p (cs ++ 10 :: Z) else 0) = if p c.toNat then 1 + rn p cs else 0
    rw [ih]
theorem sgn_ten (a : Nat) : sgn a 10 = sgn a 0 := by
  unfold sgn
  by_cases h1 : a = 124 ∨ a = 38
  · rw [if_pos h1, if_pos h1, if_neg (by omega), if_neg (by omega)]
  · rw [if_neg h1, if_neg h1]
    by_cases h2 : a = 43 ∨ a = 45 ∨ a = 42
    · rw [if_pos h2, if_pos h2, if_neg (by omega), if_neg (by omega)]
    · rw [if_neg h2, if_neg h2]
      by_cases h3 : a = 61 ∨ a = 33 ∨ a = 60 ∨ a = 62
      · rw [if_pos h3, if_pos h3, if_neg (by omega), if_neg (by omega)]
      · rw [if_neg h3, if_neg h3]
theorem ln_app (Z : List UInt8) {r : List UInt8} (hr : r ≠ []) : ln (r ++ 10 :: Z) = ln r ∧ k0 (r ++ 10 :: Z) = k0 r := by
  cases r with
  | nil => exact absurd rfl hr
  | cons c cs =>
    refine ⟨?_, rfl⟩
    show (if isLt c.toNat then rn isWb ((c :: cs) ++ 10 :: Z) else if isDg c.toNat then rn isDg ((c :: cs) ++ 10 :: Z) else sgn c.toNat (bt (cs ++ 10 :: Z) 0)) = (if isLt c.toNat then rn isWb (c :: cs) else if isDg c.toNat then rn isDg (c :: cs) else sgn c.toNat (bt cs 0))
    rw [rn_app (by decide), rn_app (by decide)]
    have : sgn c.toNat (bt (cs ++ 10 :: Z) 0) = sgn c.toNat (bt cs 0) := by
      cases cs with
      | nil => exact sgn_ten c.toNat
      | cons d ds => rfl
    rw [this]
theorem take_app {r Y : List UInt8} {n : Nat} (h : n ≤ r.length) : (r ++ Y).take n = r.take n := List.take_append_of_le_length h
theorem tk_app (Z : List UInt8) {r : List UInt8} (hr : r ≠ []) (p : Nat) : er (r ++ 10 :: Z) = er r ∧ tk (r ++ 10 :: Z) p = tk r p := by
  obtain ⟨h1, h2⟩ := ln_app Z hr
  unfold er tk
  rw [h1, h2, take_app (ln_le r)]
  exact ⟨rfl, rfl⟩
/-- a token, and what is behind it -/
theorem S_then {r : List UInt8} (p : Nat) (hr : r ≠ []) (h : er r = 0) : S r p = (T (r.drop (ln r)) (p + ln r)).map (fun L => tk r p :: L) := by
  rw [S_tok p hr h]
  unfold T nxt off
  rw [List.drop_drop, Nat.add_assoc]
theorem map_map {f g : List Tk → List Tk} (x : Except (Nat × Nat) (List Tk)) : (x.map f).map g = x.map (fun L => g (f L)) := by cases x <;> rfl
/-- a text, a new line, and what stands behind -/
theorem T_app : ∀ (n : Nat) (r : List UInt8), r.length ≤ n → ∀ (p : Nat) (L : List Tk), T r p = .ok L →
    ∃ M, L = M ++ [⟨0, [], 0, p + r.length⟩] ∧ (∀ t ∈ M, t.kind ≠ 0) ∧ ∀ Z, T (r ++ 10 :: Z) p = (T Z (p + r.length + 1)).map (fun K => M ++ K) := by
  intro n
  induction n with
  | zero =>
    intro r hn p L h
    have hr : r = [] := List.length_eq_zero_iff.1 (by omega)
    subst hr
    injection h with h
    refine ⟨[], h.symm, (fun t ht => by cases ht), fun Z => ?_⟩
    have : skp false ([] ++ 10 :: Z) = 0 + 1 + skp false Z := skp_all Z false [] rfl
    unfold T
    rw [this]
    have e : ([] ++ 10 :: Z : List UInt8).drop (0 + 1 + skp false Z) = Z.drop (skp false Z) := by rw [Nat.add_comm]; rfl
    rw [e]
    have e2 : p + (0 + 1 + skp false Z) = p + ([] : List UInt8).length + 1 + skp false Z := by show _ = p + 0 + 1 + _; omega
    rw [e2]
    cases S (Z.drop (skp false Z)) (p + ([] : List UInt8).length + 1 + skp false Z) <;> rfl
  | succ n ih =>
    intro r hn p L h
    have hz := skp_le false r
    by_cases hall : skp false r = r.length
    · unfold T at h
      rw [hall, List.drop_length] at h
      injection h with h
      refine ⟨[], h.symm, (fun t ht => by cases ht), fun Z => ?_⟩
      have e1 := skp_all Z false r hall
      unfold T
      rw [e1]
      have e : (r ++ 10 :: Z).drop (r.length + 1 + skp false Z) = Z.drop (skp false Z) := by
        rw [List.drop_append, List.drop_of_length_le (by omega), List.nil_append, show r.length + 1 + skp false Z - r.length = skp false Z + 1 by omega]
        rfl
      rw [e, show p + (r.length + 1 + skp false Z) = p + r.length + 1 + skp false Z by omega]
      cases S (Z.drop (skp false Z)) (p + r.length + 1 + skp false Z) <;> rfl
    · have hlt : skp false r < r.length := by omega
      obtain ⟨q, hq⟩ : ∃ q, q = skp false r := ⟨_, rfl⟩
      obtain ⟨R, hR⟩ : ∃ R, R = r.drop q := ⟨_, rfl⟩
      have hRl : R.length = r.length - q := by rw [hR, List.length_drop]
      have hRn : R ≠ [] := by intro e; rw [e] at hRl; simp at hRl; omega
      unfold T at h
      rw [← hq, ← hR] at h
      by_cases hE : er R = 0
      · rw [S_then _ hRn hE] at h
        have hl0 := er_ln hE
        have hle := ln_le R
        cases hT : T (R.drop (ln R)) (p + q + ln R) with
        | error x => rw [hT] at h; cases h
        | ok L1 =>
          rw [hT] at h
          injection h with h
          obtain ⟨M, hM, hpos, happ⟩ := ih (R.drop (ln R)) (by rw [List.length_drop]; omega) _ _ hT
          have hlen : (R.drop (ln R)).length = r.length - q - ln R := by rw [List.length_drop, hRl]
          refine ⟨tk R (p + q) :: M, ?_, ?_, fun Z => ?_⟩
          · rw [← h, hM, hlen]
            show tk R (p + q) :: (M ++ [⟨0, [], 0, p + q + ln R + (r.length - q - ln R)⟩]) = tk R (p + q) :: (M ++ [⟨0, [], 0, p + r.length⟩])
            rw [show p + q + ln R + (r.length - q - ln R) = p + r.length by omega]
          · intro t ht
            rcases List.mem_cons.1 ht with rfl | ht
            · exact kd_pos _ _
            · exact hpos t ht
          · have e1 : skp false (r ++ 10 :: Z) = q := by rw [skp_part _ _ _ hlt, hq]
            have e2 : (r ++ 10 :: Z).drop q = R ++ 10 :: Z := by rw [hR, List.drop_append_of_le_length (by omega)]
            have e3 : T (r ++ 10 :: Z) p = S (R ++ 10 :: Z) (p + q) := by unfold T; rw [e1, e2]
            obtain ⟨h1, h2⟩ := tk_app Z hRn (p + q)
            have h3 := (ln_app Z hRn).1
            rw [e3, S_then _ (by intro e; exact hRn (List.append_eq_nil_iff.1 e).1) (h1.trans hE), h2, h3, List.drop_append_of_le_length hle, happ Z, hlen, map_map]
            rw [show p + q + ln R + (r.length - q - ln R) = p + r.length by omega]
            rfl
      · rw [S_bad _ hRn hE] at h
        cases h
/-- ( ahead -/
def lpl : Nat → Nat → List Tk
  | 0, _ => []
  | k + 1, p => ⟨4, [40], 0, p⟩ :: lpl k (p + 1)
theorem T_lp (r : List UInt8) (p : Nat) : T (40 :: r) p = (T r (p + 1)).map (fun L => ⟨4, [40], 0, p⟩ :: L) := by
  have e : T (40 :: r) p = S (40 :: r) p := rfl
  rw [e, S_then p (by simp) rfl]
  rfl
theorem T_lps (r : List UInt8) : ∀ (k p : Nat), T (rep 40 k ++ r) p = (T r (p + k)).map (fun L => lpl k p ++ L)
  | 0, p => by show T r p = _; rw [Nat.add_zero]; cases T r p <;> rfl
  | k + 1, p => by
    show T (40 :: (rep 40 k ++ r)) p = _
    rw [T_lp, T_lps r k (p + 1), map_map, show p + 1 + k = p + (k + 1) by omega]
    rfl
theorem T_plain_at {R : List UInt8} (p : Nat) (h : apartB R = true) : T R p = .ok (toks R p) := by
  unfold T
  rw [skp_plain h]
  exact S_plain R p h
/-- a text with k brackets around -/
def bText (k : Nat) (l : List UInt8) : List UInt8 := rep 40 k ++ (l ++ 10 :: rep 41 k)
theorem apart_rp : ∀ k, apartB (rep 41 k) = true
  | 0 => rfl
  | k + 1 => by
    have ih := apart_rp k
    show (plainC 41 && ((41 : UInt8) != 120 || (rep 41 k).headD 0 != 120) && apartB (rep 41 k)) = true
    rw [ih]
    rfl
theorem moved_core (d : Nat) (M : List Tk) : M.map tcore = (M.map (Tk.moved d)).map tcore := by
  rw [List.map_map]
  rfl
theorem bText_T {l : List UInt8} {L : List Tk} (h : T l 0 = .ok L) (k : Nat) : ∃ M N, L = M ++ [⟨0, [], 0, l.length⟩] ∧ (∀ t ∈ M, t.kind ≠ 0) ∧ M.map tcore = N.map tcore ∧ T (bText k l) 0 = .ok (lpl k 0 ++ (N ++ toks (rep 41 k) (k + l.length + 1))) := by
  obtain ⟨M, hM, hpos, _⟩ := T_app l.length l (Nat.le_refl _) 0 L h
  have hk := T_shift k l 0
  rw [h] at hk
  obtain ⟨N, hN, _, happ⟩ := T_app l.length l (Nat.le_refl _) (0 + k) _ hk
  refine ⟨M, N, by rw [Nat.zero_add] at hM; exact hM, hpos, ?_, ?_⟩
  · rw [hM, List.map_append] at hN
    have := List.append_inj_left' hN rfl
    rw [← this]
    exact moved_core k M
  · unfold bText
    rw [T_lps, happ, T_plain_at _ (apart_rp k), show 0 + k + l.length + 1 = k + l.length + 1 by omega]
    rfl
theorem wrapk : ∀ (k d p q : Nat) (X : List Tk) (Z : List UInt8) (l' : List Nd) (h' : List Nat) (v : Int), closZ Z → d + k ≤ 200 → Reads (.chain 0) (d + k) ⟨X, [], []⟩ (.ok ([v], ⟨toks (rep 41 k ++ Z) q, l', h'⟩)) → ∃ q', Reads (.chain 0) d ⟨lpl k p ++ X, [], []⟩ (.ok ([v], ⟨toks Z q', l', h'⟩))
  | 0, d, p, q, X, Z, l', h', v, hz, hd, h => ⟨q, h⟩
  | k + 1, d, p, q, X, Z, l', h', v, hz, hd, h => by
    rw [rep_snoc, show d + (k + 1) = d + 1 + k by omega] at h
    obtain ⟨q', ih⟩ := wrapk k (d + 1) (p + 1) q X (41 :: Z) l' h' v (.inr ⟨Z, .inl rfl⟩) (by omega) h
    have hin : Reads (.inner lp rp) d ⟨lpl (k + 1) p ++ X, [], []⟩ (.ok ([v], st Z (q' + 1) l' h')) := Reads.inner_ok (s := ⟨lpl (k + 1) p ++ X, [], []⟩) (s1 := st (41 :: Z) q' l' h') rfl (by omega) ih rfl
    exact ⟨q' + 1, up0 (.front_none rfl rfl (.idx (.single_in rfl hin) (.more_end (clos_lb hz)))) (clos_op hz)⟩
theorem reads_one {L : List Tk} (hL : IsTk L) (h0 : 0 < L.length) {l : List Int} {s' : PS} (h : Reads (.chain 0) 0 ⟨L, [], []⟩ (.ok (l, s'))) : ∃ v, l = [v] := (reads_told hL h0 h).2.2.2.2.2.2
/-- brackets around a text change nothing but where it stands -/
theorem brack_yes {l : List UInt8} {L L' : List Tk} {o : Out} {r : List Nd} {k : Nat} (hIT : IsTk L) (hT : T l 0 = .ok L) (hl : l.length ≤ 150) (hk : k ≤ 4) (hT' : T (bText k l) 0 = .ok L') (hr : Reads (.chain 0) 0 ⟨L, [], []⟩ o) (hp : parsed o = .ok r) :
    ∃ o' r', Reads (.chain 0) 0 ⟨L', [], []⟩ o' ∧ parsed o' = .ok r' ∧ r.map ncore = r'.map ncore := by
  obtain ⟨M, N, hL, hpos, hal, hTb⟩ := bText_T hT k
  rw [hT'] at hTb
  injection hTb with hTb
  have hlenM : M.length ≤ 150 := by
    have h1 := S_length (show S _ _ = .ok L from hT)
    rw [List.length_drop, hL, List.length_append] at h1
    have : M.length + 1 ≤ l.length - skp false l + 1 := h1
    omega
  cases o with
  | error f => cases hp
  | ok x =>
    obtain ⟨ps, s'⟩ := x
    have hp' : (if s'.tok.kind = 0 then Except.ok s'.l else Except.error (8, s'.tok.place)) = (Except.ok r : Except Flt (List Nd)) := hp
    split at hp'
    · rename_i h0
      injection hp' with hp'
      obtain ⟨v, hv⟩ : ∃ v, ps = [v] := by
        exact reads_one hIT (by rw [hL, List.length_append]; exact Nat.succ_pos _) hr
      subst hv
      rw [hL] at hr
      have hz : shuts ((toks (rep 41 k) (k + l.length + 1)).headD ⟨0, [], 0, 0⟩) := by
        cases k with
        | zero => exact .inl rfl
        | succ k => exact .inr ⟨rfl, rfl⟩
      obtain ⟨z, rest, hzr⟩ : ∃ z rest, toks (rep 41 k) (k + l.length + 1) = z :: rest := by
        cases k with
        | zero => exact ⟨_, _, rfl⟩
        | succ k => exact ⟨_, _, rfl⟩
      rw [hzr] at hz
      obtain ⟨t', h1, h2, h3⟩ := reads_sim (e := ⟨0, [], 0, l.length⟩) (z := z) (k := k) (B := N) (rest := rest) rfl hz hal hpos (by omega) hr h0
      rw [← hzr] at h1 h2
      have h4 : Reads (.chain 0) (0 + k) ⟨N ++ toks (rep 41 k) (k + l.length + 1), [], []⟩ (.ok ([v], ⟨toks (rep 41 k ++ []) (k + l.length + 1), t'.l, t'.h⟩)) := by
        obtain ⟨tr, tl, th⟩ := t'
        have h2' : tr = toks (rep 41 k) (k + l.length + 1) := h2
        subst h2'
        rw [Nat.zero_add, List.append_nil]
        exact h1
      obtain ⟨q', h5⟩ := wrapk k 0 0 _ _ [] _ _ _ (.inl rfl) (by omega) h4
      rw [hTb]
      exact ⟨_, t'.l, h5, rfl, by rw [← hp']; exact h3⟩
    · cases hp'
/-- a new line behind changes nothing -/
theorem brack_no {l : List UInt8} {L L' : List Tk} {o o' : Out} {x q : Nat} (hT : T l 0 = .ok L) (hl : l.length ≤ 150) (hT' : T (bText 0 l) 0 = .ok L') (hr : Reads (.chain 0) 0 ⟨L, [], []⟩ o) (hp : parsed o = .error (x, q)) (hr' : Reads (.chain 0) 0 ⟨L', [], []⟩ o') : ∃ x' q', parsed o' = .error (x', q') := by
  obtain ⟨M, N, hL, hpos, hal, hTb⟩ := bText_T hT 0
  rw [hT'] at hTb
  injection hTb with hTb
  have hlenM : M.length ≤ 150 := by
    have h1 := S_length (show S _ _ = .ok L from hT)
    rw [List.length_drop, hL, List.length_append] at h1
    have : M.length + 1 ≤ l.length - skp false l + 1 := h1
    omega
  cases hpo : parsed o' with
  | error f => exact ⟨f.1, f.2, rfl⟩
  | ok r' =>
    exfalso
    cases o' with
    | error f => cases hpo
    | ok y =>
      obtain ⟨ps, s'⟩ := y
      have hp' : (if s'.tok.kind = 0 then Except.ok s'.l else Except.error (8, s'.tok.place)) = (Except.ok r' : Except Flt (List Nd)) := hpo
      split at hp'
      · rename_i h0
        rw [hTb] at hr'
        have hNM : N.length = M.length := by have := congrArg List.length hal; rw [List.length_map, List.length_map] at this; exact this.symm
        have hposN : ∀ a ∈ N, a.kind ≠ 0 := by
          intro a ha
          have h1 : tcore a ∈ M.map tcore := by rw [hal]; exact List.mem_map_of_mem ha
          obtain ⟨b, hb, e⟩ := List.mem_map.1 h1
          have e2 : b.kind = a.kind := by have := congrArg Tk.kind e; exact this
          rw [← e2]
          exact hpos b hb
        obtain ⟨t', h1, h2, h3⟩ := reads_sim (e := ⟨0, [], 0, 0 + l.length + 1⟩) (z := ⟨0, [], 0, l.length⟩) (k := 0) (A := N) (B := M) (rest := []) rfl (.inl rfl) hal.symm hposN (by omega) hr' h0
        rw [← hL] at h1
        obtain rfl := hr.one h1
        have : parsed (.ok (ps, t')) = .ok t'.l := by
          show (if t'.tok.kind = 0 then Except.ok t'.l else Except.error (8, t'.tok.place)) = _
          rw [if_pos (by unfold PS.tok; rw [h2]; rfl)]
        rw [this] at hp
        cases hp
      · cases hp'
end Go.Proofs.YtagacfcpepoaoaaDoor

namespace Go.Proofs.YtagacfcpepoaoaaDoor
set_option linter.unusedVariables false

theorem rn_cut9 (p : Nat → Bool) (hp : p 9 = false) (J : List UInt8) : ∀ r : List UInt8, rn p (r.take (rn p r) ++ 9 :: J) = rn p r
  | [] => by show (if p (9 : UInt8).toNat then 1 + rn p J else 0) = 0; rw [show (9 : UInt8).toNat = 9 from rfl, hp]; rfl
  | c :: cs => by
    by_cases h : p c.toNat = true
    · have e : rn p (c :: cs) = rn p cs + 1 := by simp only [rn, if_pos h]; omega
      rw [e, List.take_succ_cons, List.cons_append]
      simp only [rn, if_pos h]
      rw [rn_cut9 p hp J cs]
      omega
    · have e : rn p (c :: cs) = 0 := by simp only [rn, if_neg h]
      rw [e]
      show (if p (9 : UInt8).toNat then 1 + rn p J else 0) = 0
      rw [show (9 : UInt8).toNat = 9 from rfl, hp]
      rfl
theorem sgn_blank9 {a b : Nat} (h : sgn a b = 1) : sgn a 9 = 1 := by
  unfold sgn at h ⊢
  repeat' split at h
  all_goals first
    | (exfalso; omega)
    | skip
  all_goals simp_all
theorem ln_cut9 (r J : List UInt8) (h : 0 < ln r) : ln (r.take (ln r) ++ 9 :: J) = ln r ∧ k0 (r.take (ln r) ++ 9 :: J) = k0 r := by
  cases r with
  | nil => exact absurd h (by decide)
  | cons c cs =>
    obtain ⟨n, hn⟩ : ∃ n, ln (c :: cs) = n + 1 := ⟨ln (c :: cs) - 1, by omega⟩
    have hk : k0 ((c :: cs).take (ln (c :: cs)) ++ 9 :: J) = k0 (c :: cs) := by rw [hn]; rfl
    refine ⟨?_, hk⟩
    by_cases h1 : isLt c.toNat = true
    · have e : ln (c :: cs) = rn isWb (c :: cs) := by simp only [ln, if_pos h1]
      have g := rn_cut9 isWb (by decide) J (c :: cs)
      rw [← e, hn, List.take_succ_cons, List.cons_append] at g
      rw [hn, List.take_succ_cons, List.cons_append]
      simp only [ln, if_pos h1]
      exact g
    · by_cases h2 : isDg c.toNat = true
      · have e : ln (c :: cs) = rn isDg (c :: cs) := by simp only [ln, if_neg h1, if_pos h2]
        have g := rn_cut9 isDg (by decide) J (c :: cs)
        rw [← e, hn, List.take_succ_cons, List.cons_append] at g
        rw [hn, List.take_succ_cons, List.cons_append]
        simp only [ln, if_neg h1, if_pos h2]
        exact g
      · have e : ln (c :: cs) = sgn c.toNat (bt cs 0) := by simp only [ln, if_neg h1, if_neg h2]
        have hs := sgn_le c.toNat (bt cs 0)
        rw [hn, List.take_succ_cons, List.cons_append]
        simp only [ln, if_neg h1, if_neg h2]
        rw [e] at hn
        have hl := ln_le (c :: cs)
        rw [e, List.length_cons] at hl
        rcases Nat.lt_or_ge n 1 with g | g
        · obtain rfl : n = 0 := by omega
          show sgn c.toNat 9 = 1
          exact sgn_blank9 hn
        · obtain rfl : n = 1 := by omega
          cases cs with
          | nil => simp at hl; omega
          | cons d ds =>
            show sgn c.toNat (bt (d :: ds) 0) = _
            exact hn
/-- tokens' bytes, each with a blank and a remark behind -/
def joinR : List Tk → List UInt8
  | [] => []
  | t :: L => t.text ++ 9 :: 35 :: 125 :: 10 :: joinR L
theorem T_sep (l : List UInt8) (p : Nat) : T (9 :: 35 :: 125 :: 10 :: l) p = T l (p + 4) := by
  unfold T
  have e : skp false (9 :: 35 :: 125 :: 10 :: l) = skp false l + 4 := by show 1 + (1 + (1 + (1 + skp false l))) = _; omega
  rw [e, show p + (skp false l + 4) = p + 4 + skp false l by omega]
  rfl
theorem T_joinR {r : List UInt8} : ∀ {p : Nat} {L : List Tk}, S r p = .ok L → ∀ q, ∃ M, T (joinR L) q = .ok M ∧ L.map tcore = M.map tcore := by
  refine left_ind (Q := fun r => ∀ {p : Nat} {L : List Tk}, S r p = .ok L → ∀ q, ∃ M, T (joinR L) q = .ok M ∧ L.map tcore = M.map tcore) ?_ ?_ ?_ r
  · intro p L h q
    injection h with h
    subst h
    exact ⟨_, (T_sep [] q).trans (S_nil _), rfl⟩
  · intro r hr hb p L h; rw [S_bad p hr hb] at h; cases h
  · intro r hr hb ih p L h q
    rcases S_cases h with ⟨e, _⟩ | ⟨_, _, M, rfl, hM⟩
    · exact absurd e hr
    · have h0 := er_ln hb
      have hle := ln_le r
      obtain ⟨R, hR⟩ : ∃ R, R = r.take (ln r) ++ 9 :: (35 :: 125 :: 10 :: joinR M) := ⟨_, rfl⟩
      obtain ⟨h1, h2⟩ := ln_cut9 r (35 :: 125 :: 10 :: joinR M) h0
      have hlen : (r.take (ln r)).length = ln r := by rw [List.length_take]; omega
      have h3 : R.take (ln r) = r.take (ln r) := by rw [hR, List.take_append_of_le_length (by omega), List.take_take, Nat.min_self]
      have hd : R.drop (ln r) = 9 :: 35 :: 125 :: 10 :: joinR M := by rw [hR, List.drop_append_of_le_length (by omega), List.drop_of_length_le (by omega), List.nil_append]
      rw [← hR] at h1 h2
      have hj : joinR (tk r p :: M) = R := by rw [hR]; rfl
      have hne : R ≠ [] := by intro e; rw [e] at h1; have : ln ([] : List UInt8) = 0 := rfl; omega
      have hE : er R = 0 := by unfold er; rw [h1, h2, h3]; exact hb
      have hz := skp_tok (er_ln hE)
      obtain ⟨M', hM', hL⟩ := ih hM (q + ln r + 4)
      refine ⟨tk R q :: M', ?_, ?_⟩
      · rw [hj]
        unfold T
        rw [hz, List.drop_zero, Nat.add_zero, S_then q hne hE, h1, hd, T_sep, hM']
        rfl
      · rw [List.map_cons, List.map_cons, hL]
        have : tcore (tk r p) = tcore (tk R q) := by
          unfold tk tcore
          rw [h1, h2, h3]
        rw [this]
theorem joinR_length {r : List UInt8} : ∀ {p : Nat} {L : List Tk}, S r p = .ok L → (joinR L).length ≤ 5 * r.length + 4 := by
  refine left_ind (Q := fun r => ∀ {p : Nat} {L : List Tk}, S r p = .ok L → (joinR L).length ≤ 5 * r.length + 4) ?_ ?_ ?_ r
  · intro p L h; injection h with h; subst h; exact Nat.le_refl _
  · intro r hr hb p L h; rw [S_bad p hr hb] at h; cases h
  · intro r hr hb ih p L h
    rcases S_cases h with ⟨e, _⟩ | ⟨_, _, M, rfl, hM⟩
    · exact absurd e hr
    · have := ih hM
      rw [nxt_length] at this
      have := er_ln hb
      have := off_le r
      have h1 : ln r ≤ off r := Nat.le_add_right _ _
      have h2 := ln_le r
      show (r.take (ln r) ++ 9 :: 35 :: 125 :: 10 :: joinR M).length ≤ _
      rw [List.length_append, List.length_take]
      simp only [List.length_cons]
      omega
theorem T_again {l : List UInt8} {L : List Tk} (h : T l 0 = .ok L) : ∃ M, T (joinR L) 0 = .ok M ∧ L.map tcore = M.map tcore ∧ (joinR L).length ≤ 5 * l.length + 4 := by
  obtain ⟨M, h1, h2⟩ := T_joinR (show S _ _ = .ok L from h) 0
  refine ⟨M, h1, h2, ?_⟩
  have := joinR_length (show S _ _ = .ok L from h)
  rw [List.length_drop] at this
  omega
end Go.Proofs.YtagacfcpepoaoaaDoor
