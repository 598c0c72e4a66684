/- Tokens of a text, by the document's words, over lists of bytes. No program. -/
import Derived.Test.YtnmeijcaaohnpaaDoorGenText
namespace Go.Proofs.YtnmeijcaaohnpaaDoor
set_option linter.unusedVariables false

/-- what a byte is: a blank, a letter, a digit, a byte of a word -/
def isBl (n : Nat) : Bool := n == 32 || n == 9 || n == 10 || n == 13
def isLt (n : Nat) : Bool := (decide (97 ≤ n) && decide (n ≤ 122)) || (decide (65 ≤ n) && decide (n ≤ 90)) || n == 95
def isDg (n : Nat) : Bool := decide (48 ≤ n) && decide (n ≤ 57)
def isWb (n : Nat) : Bool := isLt n || isDg n
/-- how many bytes of blanks and remarks stand ahead; true: one is within a remark -/
def skp : Bool → List UInt8 → Nat
  | _, [] => 0
  | true, c :: cs => if c.toNat = 10 then 1 + skp false cs else 1 + skp true cs
  | false, c :: cs => if c.toNat = 35 then 1 + skp true cs else if isBl c.toNat then 1 + skp false cs else 0
/-- how many bytes of one sort stand ahead -/
def rn (p : Nat → Bool) : List UInt8 → Nat
  | [] => 0
  | c :: cs => if p c.toNat then 1 + rn p cs else 0
/-- how long a sign is that begins with these two bytes -/
def sgn (a b : Nat) : Nat :=
  if a = 124 ∨ a = 38 then (if b = a then 2 else 0)
  else if a = 43 ∨ a = 45 ∨ a = 42 then (if b = 37 then 2 else 1)
  else if a = 61 ∨ a = 33 ∨ a = 60 ∨ a = 62 then (if b = 61 then 2 else 1)
  else if a = 47 ∨ a = 37 ∨ a = 40 ∨ a = 41 ∨ a = 123 ∨ a = 125 ∨ a = 91 ∨ a = 93 ∨ a = 44 ∨ a = 59 then 1 else 0
/-- the token at a list's beginning: its sort (key words among the names), and its length -/
def k0 : List UInt8 → Nat
  | [] => 4
  | c :: _ => if isLt c.toNat then 1 else if isDg c.toNat then 2 else 4
def ln : List UInt8 → Nat
  | [] => 0
  | c :: cs => if isLt c.toNat then rn isWb (c :: cs) else if isDg c.toNat then rn isDg (c :: cs) else sgn c.toNat (bt cs 0)
/-- the number of digits -/
def dgt (c : UInt8) : Nat := (c.toNat + 208) % 256
def nstep (o : Option Nat) (c : UInt8) : Option Nat := match o with
  | none => none
  | some n => if n * 10 + dgt c ≤ 9223372036854775807 then some (n * 10 + dgt c) else none
def num (l : List UInt8) : Option Nat := l.foldl nstep (some 0)
/-- the key words -/
def keys : List (List UInt8) := [[102, 110], [118, 97, 114], [105, 102], [101, 108, 115, 101], [119, 104, 105, 108, 101], [102, 111, 114], [98, 114, 101, 97, 107], [99, 111, 110, 116, 105, 110, 117, 101], [114, 101, 116, 117, 114, 110], [112, 114, 105, 110, 116], [108, 101, 110], [110, 101, 119], [116, 114, 117, 101], [102, 97, 108, 115, 101], [110, 105, 108], [105, 110, 116], [98, 111, 111, 108], [97, 114, 114]]
def isKey (t : List UInt8) : Bool := keys.any (fun k => t == k)
/-- of sort, length and bytes: what is wrong, the kind, the number -/
def erOf (k n : Nat) (t : List UInt8) : Nat :=
  if n = 0 then 6 else if k = 2 then (if (num t).isSome then 0 else 7) else if k = 1 ∧ isKey t = true then 0 else if k = 1 ∧ 32 < n then 3 else 0
def kdOf (k : Nat) (t : List UInt8) : Nat := if k = 1 ∧ isKey t = true then 3 else k
def nmOf (k : Nat) (t : List UInt8) : Nat := if k = 2 then (num t).getD 0 else 0
def er (r : List UInt8) : Nat := erOf (k0 r) (ln r) (r.take (ln r))
structure Tk where
  kind : Nat
  text : List UInt8
  n : Nat
  place : Nat
def tk (r : List UInt8) (p : Nat) : Tk := ⟨kdOf (k0 r) (r.take (ln r)), r.take (ln r), nmOf (k0 r) (r.take (ln r)), p⟩
/-- how far the next token is, and what is left there -/
def off (r : List UInt8) : Nat := ln r + skp false (r.drop (ln r))
def nxt (r : List UInt8) : List UInt8 := r.drop (off r)
/-- all tokens of what is left, which stands at p; or what is wrong, and where -/
def lexd : Nat → List UInt8 → Nat → Except (Nat × Nat) (List Tk)
  | 0, _, _ => .ok []
  | f + 1, r, p => match r with
    | [] => .ok [⟨0, [], 0, p⟩]
    | c :: cs => if er (c :: cs) = 0 then (lexd f (nxt (c :: cs)) (p + off (c :: cs))).map (fun L => tk (c :: cs) p :: L) else .error (er (c :: cs), p)
def S (r : List UInt8) (p : Nat) : Except (Nat × Nat) (List Tk) := lexd (r.length + 1) r p
/-- of a text, from p on, with what is ahead of its first token -/
def T (l : List UInt8) (p : Nat) : Except (Nat × Nat) (List Tk) := S (l.drop (skp false l)) (p + skp false l)

theorem skp_le : ∀ (b : Bool) (l : List UInt8), skp b l ≤ l.length
  | _, [] => by cases ‹Bool› <;> exact Nat.le_refl _
  | true, c :: cs => by
    have h1 := skp_le false cs
    have h2 := skp_le true cs
    unfold skp
    split <;> (rw [List.length_cons]; omega)
  | false, c :: cs => by
    have h1 := skp_le false cs
    have h2 := skp_le true cs
    unfold skp
    rw [List.length_cons]
    split
    · omega
    · split <;> omega
theorem skp_take : ∀ (b : Bool) (l : List UInt8), skp b (l.take (skp b l)) = skp b l
  | _, [] => by cases ‹Bool› <;> rfl
  | true, c :: cs => by
    have h1 := skp_take false cs
    have h2 := skp_take true cs
    by_cases h : c.toNat = 10
    · have e : skp true (c :: cs) = skp false cs + 1 := by simp only [skp, if_pos h]; omega
      rw [e, List.take_succ_cons]
      simp only [skp, if_pos h]
      omega
    · have e : skp true (c :: cs) = skp true cs + 1 := by simp only [skp, if_neg h]; omega
      rw [e, List.take_succ_cons]
      simp only [skp, if_neg h]
      omega
  | false, c :: cs => by
    have h1 := skp_take false cs
    have h2 := skp_take true cs
    by_cases h : c.toNat = 35
    · have e : skp false (c :: cs) = skp true cs + 1 := by simp only [skp, if_pos h]; omega
      rw [e, List.take_succ_cons]
      simp only [skp, if_pos h]
      omega
    · by_cases g : isBl c.toNat = true
      · have e : skp false (c :: cs) = skp false cs + 1 := by simp only [skp, if_neg h, if_pos g]; omega
        rw [e, List.take_succ_cons]
        simp only [skp, if_neg h, if_pos g]
        omega
      · have e : skp false (c :: cs) = 0 := by simp only [skp, if_neg h, if_neg g]
        rw [e]
        rfl
theorem rn_le (p : Nat → Bool) : ∀ l : List UInt8, rn p l ≤ l.length
  | [] => Nat.le_refl _
  | c :: cs => by
    have h := rn_le p cs
    unfold rn
    rw [List.length_cons]
    split <;> omega
theorem sgn_le (a b : Nat) : sgn a b ≤ 2 := by
  unfold sgn
  repeat' split
  all_goals omega
theorem sgn_end (a : Nat) : sgn a 0 ≤ 1 := by
  unfold sgn
  repeat' split
  all_goals omega
theorem ln_le : ∀ l : List UInt8, ln l ≤ l.length
  | [] => Nat.le_refl _
  | c :: cs => by
    show (if isLt c.toNat then rn isWb (c :: cs) else if isDg c.toNat then rn isDg (c :: cs) else sgn c.toNat (bt cs 0)) ≤ _
    split
    · exact rn_le _ _
    · split
      · exact rn_le _ _
      · cases cs with
        | nil => exact sgn_end c.toNat
        | cons d ds => have := sgn_le c.toNat (bt (d :: ds) 0); rw [List.length_cons, List.length_cons]; omega
theorem off_le (r : List UInt8) : off r ≤ r.length := by
  have h1 := ln_le r
  have h2 := skp_le false (r.drop (ln r))
  rw [List.length_drop] at h2
  unfold off
  omega
theorem er_ln {r : List UInt8} (h : er r = 0) : 0 < ln r := by
  unfold er erOf at h
  by_cases e : ln r = 0
  · rw [if_pos e] at h; omega
  · omega
theorem off_pos {r : List UInt8} (h : er r = 0) : 0 < off r := by have := er_ln h; unfold off; omega
theorem nxt_length (r : List UInt8) : (nxt r).length = r.length - off r := List.length_drop
theorem lexd_fuel : ∀ (f g : Nat) (r : List UInt8) (p : Nat), r.length < f → r.length < g → lexd f r p = lexd g r p
  | 0, _, _, _, h, _ => by omega
  | _, 0, _, _, _, h => by omega
  | f + 1, g + 1, [], p, _, _ => rfl
  | f + 1, g + 1, c :: cs, p, hf, hg => by
    show (if er (c :: cs) = 0 then (lexd f (nxt (c :: cs)) (p + off (c :: cs))).map (fun L => tk (c :: cs) p :: L) else .error (er (c :: cs), p)) = if er (c :: cs) = 0 then (lexd g (nxt (c :: cs)) (p + off (c :: cs))).map (fun L => tk (c :: cs) p :: L) else .error (er (c :: cs), p)
    by_cases h : er (c :: cs) = 0
    · rw [if_pos h, if_pos h, lexd_fuel f g]
      · have := off_pos h; rw [nxt_length]; rw [List.length_cons] at hf ⊢; omega
      · have := off_pos h; rw [nxt_length]; rw [List.length_cons] at hg ⊢; omega
    · rw [if_neg h, if_neg h]
theorem S_nil (p : Nat) : S [] p = .ok [⟨0, [], 0, p⟩] := rfl
theorem S_bad {r : List UInt8} (p : Nat) (hr : r ≠ []) (h : er r ≠ 0) : S r p = .error (er r, p) := by
  cases r with
  | nil => exact absurd rfl hr
  | cons c cs => exact if_neg h
theorem S_tok {r : List UInt8} (p : Nat) (hr : r ≠ []) (h : er r = 0) : S r p = (S (nxt r) (p + off r)).map (fun L => tk r p :: L) := by
  cases r with
  | nil => exact absurd rfl hr
  | cons c cs =>
    have e : S (c :: cs) p = (lexd ((c :: cs).length) (nxt (c :: cs)) (p + off (c :: cs))).map (fun L => tk (c :: cs) p :: L) := if_pos h
    rw [e]
    unfold S
    rw [lexd_fuel]
    · have := off_pos h; have := off_le (c :: cs); rw [nxt_length]; omega
    · omega
/-- by the length of what is left -/
theorem left_ind {Q : List UInt8 → Prop} (h0 : Q []) (hb : ∀ r, r ≠ [] → er r ≠ 0 → Q r) (ht : ∀ r, r ≠ [] → er r = 0 → Q (nxt r) → Q r) : ∀ r, Q r := by
  have key : ∀ n r, List.length r ≤ n → Q r := by
    intro n
    induction n with
    | zero => intro r hr; cases r with
      | nil => exact h0
      | cons c cs => rw [List.length_cons] at hr; omega
    | succ n ih =>
      intro r hr
      by_cases e : r = []
      · rw [e]; exact h0
      · by_cases g : er r = 0
        · refine ht r e g (ih _ ?_)
          have := off_pos g
          rw [nxt_length]
          omega
        · exact hb r e g
  exact fun r => key r.length r (Nat.le_refl _)
theorem S_cases {r : List UInt8} {p : Nat} {L : List Tk} (h : S r p = .ok L) :
    (r = [] ∧ L = [⟨0, [], 0, p⟩]) ∨ (r ≠ [] ∧ er r = 0 ∧ ∃ M, L = tk r p :: M ∧ S (nxt r) (p + off r) = .ok M) := by
  by_cases e : r = []
  · subst e
    rw [S_nil] at h
    injection h with h
    exact .inl ⟨rfl, h.symm⟩
  · by_cases g : er r = 0
    · rw [S_tok p e g] at h
      cases hn : S (nxt r) (p + off r) with
      | error x => rw [hn] at h; cases h
      | ok M =>
        rw [hn] at h
        injection h with h
        exact .inr ⟨e, g, M, h.symm, rfl⟩
    · rw [S_bad p e g] at h; cases h
theorem S_some {r : List UInt8} {p : Nat} {L : List Tk} (h : S r p = .ok L) : 0 < L.length := by
  rcases S_cases h with ⟨_, e⟩ | ⟨_, _, M, e, _⟩
  · rw [e]; exact Nat.zero_lt_one
  · rw [e, List.length_cons]; omega
theorem er_S {r : List UInt8} : ∀ {p e q : Nat}, S r p = .error (e, q) → e ≠ 0 ∧ p ≤ q ∧ q < p + r.length := by
  refine left_ind (Q := fun r => ∀ {p e q : Nat}, S r p = .error (e, q) → e ≠ 0 ∧ p ≤ q ∧ q < p + r.length) ?_ ?_ ?_ r
  · intro p e q h; cases h
  · intro r hr hb p e q h
    rw [S_bad p hr hb] at h
    injection h with h
    injection h with h1 h2
    have : 0 < r.length := List.length_pos_iff.2 hr
    exact ⟨by omega, by omega, by omega⟩
  · intro r hr hb ih p e q h
    rw [S_tok p hr hb] at h
    cases hn : S (nxt r) (p + off r) with
    | error x =>
      rw [hn] at h
      injection h with h
      subst h
      obtain ⟨h1, h2, h3⟩ := ih hn
      rw [nxt_length] at h3
      have := off_le r
      exact ⟨h1, by omega, by omega⟩
    | ok M => rw [hn] at h; cases h
theorem S_length {r : List UInt8} : ∀ {p : Nat} {L : List Tk}, S r p = .ok L → L.length ≤ r.length + 1 := by
  refine left_ind (Q := fun r => ∀ {p : Nat} {L : List Tk}, S r p = .ok L → L.length ≤ r.length + 1) ?_ ?_ ?_ r
  · intro p L h; injection h with h; subst h; exact Nat.le_refl _
  · intro r hr hb p L h; rw [S_bad p hr hb] at h; cases h
  · intro r hr hb ih p L h
    rcases S_cases h with ⟨e, _⟩ | ⟨_, _, M, e, hM⟩
    · exact absurd e hr
    · have := ih hM
      rw [nxt_length] at this
      have := off_pos hb
      have := off_le r
      rw [e, List.length_cons]
      omega
/-- who stands elsewhere -/
def Tk.moved (d : Nat) (t : Tk) : Tk := { t with place := t.place + d }
def shift (d : Nat) : Except (Nat × Nat) (List Tk) → Except (Nat × Nat) (List Tk)
  | .ok L => .ok (L.map (Tk.moved d))
  | .error (e, q) => .error (e, q + d)
theorem S_shift (d : Nat) (r : List UInt8) : ∀ p, S r (p + d) = shift d (S r p) := by
  refine left_ind (Q := fun r => ∀ p, S r (p + d) = shift d (S r p)) ?_ ?_ ?_ r
  · intro p; rfl
  · intro r hr hb p; rw [S_bad p hr hb, S_bad (p + d) hr hb]; rfl
  · intro r hr hb ih p
    rw [S_tok p hr hb, S_tok (p + d) hr hb, show p + d + off r = p + off r + d by omega, ih]
    cases S (nxt r) (p + off r) with
    | error x => obtain ⟨a, b⟩ := x; rfl
    | ok M => rfl
theorem T_shift (d : Nat) (l : List UInt8) (p : Nat) : T l (p + d) = shift d (T l p) := by
  unfold T
  rw [show p + d + skp false l = p + skp false l + d by omega, S_shift]
/-- a remark on a line of its own, ahead of a text -/
def dot : List UInt8 := [9, 35, 120, 10]
theorem skp_dot (l : List UInt8) : skp false (dot ++ l) = 4 + skp false l := by
  show 1 + (1 + (1 + (1 + skp false l))) = _
  omega
theorem T_dot (l : List UInt8) (p : Nat) : T (dot ++ l) p = T l (p + 4) := by
  unfold T
  rw [skp_dot, show (4 + skp false l) = dot.length + skp false l from rfl, List.drop_append, show p + (dot.length + skp false l) = p + 4 + skp false l from (Nat.add_assoc _ _ _).symm]
  rw [show dot.length + skp false l - dot.length = skp false l by omega, List.drop_of_length_le (by omega), List.nil_append]
def dots : Nat → List UInt8
  | 0 => []
  | n + 1 => dots n ++ dot
theorem dots_length : ∀ n, (dots n).length = 4 * n
  | 0 => rfl
  | n + 1 => by show (dots n ++ dot).length = _; rw [List.length_append, dots_length n]; show 4 * n + 4 = _; omega
theorem T_dots : ∀ (n : Nat) (l : List UInt8) (p : Nat), T (dots n ++ l) p = T l (p + 4 * n)
  | 0, _, _ => rfl
  | n + 1, l, p => by
    show T (dots n ++ dot ++ l) p = _
    rw [List.append_assoc, T_dots n, T_dot, show p + 4 * n + 4 = p + 4 * (n + 1) by omega]
/-- tokens' bytes, each with a blank behind -/
def joined : List Tk → List UInt8
  | [] => []
  | t :: L => t.text ++ 32 :: joined L
/-- alike, but for where they stand -/
def Tk.like (a b : Tk) : Prop := a.kind = b.kind ∧ a.text = b.text ∧ a.n = b.n
def Like : List Tk → List Tk → Prop
  | [], [] => True
  | a :: A, b :: B => a.like b ∧ Like A B
  | _, _ => False
theorem Like.length : ∀ {A B : List Tk}, Like A B → A.length = B.length
  | [], [], _ => rfl
  | _ :: _, _ :: _, h => by rw [List.length_cons, List.length_cons, Like.length h.2]
  | [], _ :: _, h => by cases h
  | _ :: _, [], h => by cases h
theorem Like.at : ∀ {A B : List Tk}, Like A B → ∀ (i : Nat) (a b : Tk), A[i]? = some a → B[i]? = some b → a.like b
  | [], [], _, i, a, b, ha, _ => by simp at ha
  | x :: A, y :: B, h, 0, a, b, ha, hb => by simp at ha hb; subst ha; subst hb; exact h.1
  | x :: A, y :: B, h, i + 1, a, b, ha, hb => by simp at ha hb; exact Like.at h.2 i a b ha hb
  | [], _ :: _, h, _, _, _, _, _ => by cases h
  | _ :: _, [], h, _, _, _, _, _ => by cases h
/-- a run of bytes of one sort, cut off, with a byte of another sort behind -/
theorem rn_cut (p : Nat → Bool) (hp : p 32 = false) (J : List UInt8) : ∀ r : List UInt8, rn p (r.take (rn p r) ++ 32 :: J) = rn p r
  | [] => by show (if p (32 : UInt8).toNat then 1 + rn p J else 0) = 0; rw [show (32 : UInt8).toNat = 32 from rfl, hp]; rfl
  | c :: cs => by
    by_cases h : p c.toNat = true
    · have e : rn p (c :: cs) = rn p cs + 1 := by simp only [rn, if_pos h]; omega
      rw [e, List.take_succ_cons, List.cons_append]
      simp only [rn, if_pos h]
      rw [rn_cut p hp J cs]
      omega
    · have e : rn p (c :: cs) = 0 := by simp only [rn, if_neg h]
      rw [e]
      show (if p (32 : UInt8).toNat then 1 + rn p J else 0) = 0
      rw [show (32 : UInt8).toNat = 32 from rfl, hp]
      rfl
theorem sgn_blank {a b : Nat} (h : sgn a b = 1) : sgn a 32 = 1 := by
  unfold sgn at h ⊢
  repeat' split at h
  all_goals first
    | (exfalso; omega)
    | skip
  all_goals simp_all
theorem ln_cut (r J : List UInt8) (h : 0 < ln r) : ln (r.take (ln r) ++ 32 :: J) = ln r ∧ k0 (r.take (ln r) ++ 32 :: J) = k0 r := by
  cases r with
  | nil => exact absurd h (by decide)
  | cons c cs =>
    obtain ⟨n, hn⟩ : ∃ n, ln (c :: cs) = n + 1 := ⟨ln (c :: cs) - 1, by omega⟩
    have hk : k0 ((c :: cs).take (ln (c :: cs)) ++ 32 :: J) = k0 (c :: cs) := by rw [hn]; rfl
    refine ⟨?_, hk⟩
    by_cases h1 : isLt c.toNat = true
    · have e : ln (c :: cs) = rn isWb (c :: cs) := by simp only [ln, if_pos h1]
      have g := rn_cut isWb (by decide) J (c :: cs)
      rw [← e, hn, List.take_succ_cons, List.cons_append] at g
      rw [hn, List.take_succ_cons, List.cons_append]
      simp only [ln, if_pos h1]
      exact g
    · by_cases h2 : isDg c.toNat = true
      · have e : ln (c :: cs) = rn isDg (c :: cs) := by simp only [ln, if_neg h1, if_pos h2]
        have g := rn_cut isDg (by decide) J (c :: cs)
        rw [← e, hn, List.take_succ_cons, List.cons_append] at g
        rw [hn, List.take_succ_cons, List.cons_append]
        simp only [ln, if_neg h1, if_pos h2]
        exact g
      · have e : ln (c :: cs) = sgn c.toNat (bt cs 0) := by simp only [ln, if_neg h1, if_neg h2]
        have hs := sgn_le c.toNat (bt cs 0)
        rw [hn, List.take_succ_cons, List.cons_append]
        simp only [ln, if_neg h1, if_neg h2]
        rw [e] at hn
        have hl := ln_le (c :: cs)
        rw [e, List.length_cons] at hl
        rcases Nat.lt_or_ge n 1 with g | g
        · obtain rfl : n = 0 := by omega
          show sgn c.toNat 32 = 1
          exact sgn_blank hn
        · obtain rfl : n = 1 := by omega
          cases cs with
          | nil => simp at hl; omega
          | cons d ds =>
            show sgn c.toNat (bt (d :: ds) 0) = _
            exact hn
theorem er_cut (r J : List UInt8) (h : er r = 0) : er (r.take (ln r) ++ 32 :: J) = 0 ∧ (tk (r.take (ln r) ++ 32 :: J) 0).like (tk r 0) ∧ ln (r.take (ln r) ++ 32 :: J) = ln r := by
  obtain ⟨h1, h2⟩ := ln_cut r J (er_ln h)
  have h3 : (r.take (ln r) ++ 32 :: J).take (ln r) = r.take (ln r) := by
    rw [List.take_append_of_le_length (by rw [List.length_take]; have := ln_le r; omega), List.take_take, Nat.min_self]
  refine ⟨?_, ⟨?_, ?_, ?_⟩, h1⟩
  · unfold er
    rw [h1, h2, h3]
    exact h
  · show kdOf _ _ = kdOf _ _
    rw [h1, h2, h3]
  · show List.take _ _ = List.take _ _
    rw [h1, h3]
  · show nmOf _ _ = nmOf _ _
    rw [h1, h2, h3]
/-- a token does not begin with a blank or a remark -/
theorem sgn_blanks {a b : Nat} (h : a = 35 ∨ isBl a = true) : sgn a b = 0 := by
  unfold isBl at h
  simp at h
  unfold sgn
  repeat' split
  all_goals omega
theorem skp_tok {r : List UInt8} (h : 0 < ln r) : skp false r = 0 := by
  cases r with
  | nil => rfl
  | cons c cs =>
    have hn : ¬ (c.toNat = 35 ∨ isBl c.toNat = true) := by
      intro g
      have g' := g
      unfold isBl at g'
      simp at g'
      have h1 : isLt c.toNat = false := by unfold isLt; simp; omega
      have h2 : isDg c.toNat = false := by unfold isDg; simp; omega
      have e : ln (c :: cs) = sgn c.toNat (bt cs 0) := by simp [ln, h1, h2]
      rw [e, sgn_blanks g] at h
      omega
    have n1 : ¬ c.toNat = 35 := fun g => hn (.inl g)
    have n2 : ¬ isBl c.toNat = true := fun g => hn (.inr g)
    simp only [skp, if_neg n1, if_neg n2]
theorem T_blank (l : List UInt8) (p : Nat) : T (32 :: l) p = T l (p + 1) := by
  unfold T
  have e : skp false (32 :: l) = skp false l + 1 := by show 1 + skp false l = _; omega
  rw [e, List.drop_succ_cons, show p + (skp false l + 1) = p + 1 + skp false l by omega]
/-- joined by blanks, tokens are read as they are -/
theorem T_joined {r : List UInt8} : ∀ {p : Nat} {L : List Tk}, S r p = .ok L → ∀ q, ∃ M, T (joined L) q = .ok M ∧ Like M L := by
  refine left_ind (Q := fun r => ∀ {p : Nat} {L : List Tk}, S r p = .ok L → ∀ q, ∃ M, T (joined L) q = .ok M ∧ Like M L) ?_ ?_ ?_ r
  · intro p L h q
    injection h with h
    subst h
    exact ⟨_, (T_blank [] q).trans (S_nil _), ⟨rfl, rfl, rfl⟩, trivial⟩
  · intro r hr hb p L h; rw [S_bad p hr hb] at h; cases h
  · intro r hr hb ih p L h q
    rcases S_cases h with ⟨e, _⟩ | ⟨_, _, M, rfl, hM⟩
    · exact absurd e hr
    · obtain ⟨h1, h2, h3⟩ := er_cut r (joined M) hb
      have hj : joined (tk r p :: M) = r.take (ln r) ++ 32 :: joined M := rfl
      rw [hj]
      obtain ⟨R, hR⟩ : ∃ R, R = r.take (ln r) ++ 32 :: joined M := ⟨_, rfl⟩
      rw [← hR] at h1 h2 h3 ⊢
      have hne : R ≠ [] := by intro e; rw [e] at h1; exact absurd h1 (by decide)
      have hz := skp_tok (er_ln h1)
      have hlr := ln_le r
      have hd : R.drop (ln R) = 32 :: joined M := by
        rw [h3, hR, List.drop_append_of_le_length (by rw [List.length_take]; omega), List.drop_of_length_le (by rw [List.length_take]; omega), List.nil_append]
      have ho : off R = ln r + skp false (32 :: joined M) := by unfold off; rw [hd, h3]
      have hN : nxt R = (32 :: joined M).drop (skp false (32 :: joined M)) := by
        unfold nxt
        rw [ho, ← h3, ← hd, List.drop_drop]
      obtain ⟨M', hM', hL⟩ := ih hM (q + ln r + 1)
      have hT : S (nxt R) (q + off R) = .ok M' := by
        have := T_blank (joined M) (q + ln r)
        rw [hM'] at this
        unfold T at this
        rw [hN, ho, ← Nat.add_assoc]
        exact this
      refine ⟨tk R q :: M', ?_, h2, hL⟩
      unfold T
      rw [hz, List.drop_zero, Nat.add_zero, S_tok q hne h1, hT]
      rfl
theorem joined_length {r : List UInt8} : ∀ {p : Nat} {L : List Tk}, S r p = .ok L → (joined L).length ≤ 2 * r.length + 1 := by
  refine left_ind (Q := fun r => ∀ {p : Nat} {L : List Tk}, S r p = .ok L → (joined L).length ≤ 2 * r.length + 1) ?_ ?_ ?_ r
  · intro p L h; injection h with h; subst h; exact Nat.le_refl _
  · intro r hr hb p L h; rw [S_bad p hr hb] at h; cases h
  · intro r hr hb ih p L h
    rcases S_cases h with ⟨e, _⟩ | ⟨_, _, M, rfl, hM⟩
    · exact absurd e hr
    · have := ih hM
      rw [nxt_length] at this
      have := er_ln hb
      have := off_le r
      have hj : joined (tk r p :: M) = r.take (ln r) ++ 32 :: joined M := rfl
      have h1 : ln r ≤ off r := Nat.le_add_right _ _
      have h2 := ln_le r
      rw [hj, List.length_append, List.length_cons, List.length_take]
      omega
theorem kd_pos (r : List UInt8) (p : Nat) : (tk r p).kind ≠ 0 := by
  show kdOf (k0 r) _ ≠ 0
  unfold kdOf
  split
  · omega
  · cases r with
    | nil => show 4 ≠ 0; omega
    | cons c cs => unfold k0; repeat' split
                   all_goals omega
end Go.Proofs.YtnmeijcaaohnpaaDoor
