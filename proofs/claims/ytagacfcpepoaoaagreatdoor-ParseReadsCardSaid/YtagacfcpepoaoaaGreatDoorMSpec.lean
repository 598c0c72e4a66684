/- LexSpec, TreeSpec, ExprSpec, in one text. -/
import Derived.Test.YtagacfcpepoaoaaGreatDoorMGen
import Derived.Lib.Join
import Derived.Lib.ItoaLen
import Derived.Lib.Small
namespace Go.Proofs.YtagacfcpepoaoaaGreatDoor
set_option linter.unusedVariables false

/-- what a byte is: a blank, a letter, a digit, a byte of a word -/
def isBl (n : Nat) : Bool := n == 32 || n == 9 || n == 10 || n == 13
def isLt (n : Nat) : Bool := (decide (97 ≤ n) && decide (n ≤ 122)) || (decide (65 ≤ n) && decide (n ≤ 90)) || n == 95
def isDg (n : Nat) : Bool := decide (48 ≤ n) && decide (n ≤ 57)
def isWb (n : Nat) : Bool := isLt n || isDg n
/-- how many bytes of blanks and remarks stand ahead; true: one is within a remark -/
def skp : Bool → List UInt8 → Nat
  | _, [] => 0
  | true, c :: cs => if c.toNat = 10 then 1 + skp false cs else 1 + skp true cs
  | false, c :: cs => if c.toNat = 35 then 1 + skp true cs else if isBl c.toNat then 1 + skp false cs else 0
/-- how many bytes of one sort stand ahead -/
def rn (p : Nat → Bool) : List UInt8 → Nat
  | [] => 0
  | c :: cs => if p c.toNat then 1 + rn p cs else 0
/-- how long a sign is that begins with these two bytes -/
def sgn (a b : Nat) : Nat :=
  if a = 124 ∨ a = 38 then (if b = a then 2 else 0)
  else if a = 43 ∨ a = 45 ∨ a = 42 then (if b = 37 then 2 else 1)
  else if a = 61 ∨ a = 33 ∨ a = 60 ∨ a = 62 then (if b = 61 then 2 else 1)
  else if a = 47 ∨ a = 37 ∨ a = 40 ∨ a = 41 ∨ a = 123 ∨ a = 125 ∨ a = 91 ∨ a = 93 ∨ a = 44 ∨ a = 59 then 1 else 0
/-- the token at a list's beginning: its sort (key words among the names), and its length -/
def k0 : List UInt8 → Nat
  | [] => 4
  | c :: _ => if isLt c.toNat then 1 else if isDg c.toNat then 2 else 4
def ln : List UInt8 → Nat
  | [] => 0
  | c :: cs => if isLt c.toNat then rn isWb (c :: cs) else if isDg c.toNat then rn isDg (c :: cs) else sgn c.toNat (bt cs 0)
/-- the number of digits -/
def dgt (c : UInt8) : Nat := (c.toNat + 208) % 256
def nstep (o : Option Nat) (c : UInt8) : Option Nat := match o with
  | none => none
  | some n => if n * 10 + dgt c ≤ 9223372036854775807 then some (n * 10 + dgt c) else none
def num (l : List UInt8) : Option Nat := l.foldl nstep (some 0)
/-- the key words -/
def keys : List (List UInt8) := [[102, 110], [118, 97, 114], [105, 102], [101, 108, 115, 101], [119, 104, 105, 108, 101], [102, 111, 114], [98, 114, 101, 97, 107], [99, 111, 110, 116, 105, 110, 117, 101], [114, 101, 116, 117, 114, 110], [112, 114, 105, 110, 116], [108, 101, 110], [110, 101, 119], [116, 114, 117, 101], [102, 97, 108, 115, 101], [110, 105, 108], [105, 110, 116], [98, 111, 111, 108], [97, 114, 114]]
def isKey (t : List UInt8) : Bool := keys.any (fun k => t == k)
/-- of sort, length and bytes: what is wrong, the kind, the number -/
def erOf (k n : Nat) (t : List UInt8) : Nat :=
  if n = 0 then 6 else if k = 2 then (if (num t).isSome then 0 else 7) else if k = 1 ∧ isKey t = true then 0 else if k = 1 ∧ 32 < n then 3 else 0
def kdOf (k : Nat) (t : List UInt8) : Nat := if k = 1 ∧ isKey t = true then 3 else k
def nmOf (k : Nat) (t : List UInt8) : Nat := if k = 2 then (num t).getD 0 else 0
def er (r : List UInt8) : Nat := erOf (k0 r) (ln r) (r.take (ln r))
structure Tk where
  kind : Nat
  text : List UInt8
  n : Nat
  place : Nat
def tk (r : List UInt8) (p : Nat) : Tk := ⟨kdOf (k0 r) (r.take (ln r)), r.take (ln r), nmOf (k0 r) (r.take (ln r)), p⟩
/-- how far the next token is, and what is left there -/
def off (r : List UInt8) : Nat := ln r + skp false (r.drop (ln r))
def nxt (r : List UInt8) : List UInt8 := r.drop (off r)
/-- all tokens of what is left, which stands at p; or what is wrong, and where -/
def lexd : Nat → List UInt8 → Nat → Except (Nat × Nat) (List Tk)
  | 0, _, _ => .ok []
  | f + 1, r, p => match r with
    | [] => .ok [⟨0, [], 0, p⟩]
    | c :: cs => if er (c :: cs) = 0 then (lexd f (nxt (c :: cs)) (p + off (c :: cs))).map (fun L => tk (c :: cs) p :: L) else .error (er (c :: cs), p)
def S (r : List UInt8) (p : Nat) : Except (Nat × Nat) (List Tk) := lexd (r.length + 1) r p
/-- of a text, from p on, with what is ahead of its first token -/
def T (l : List UInt8) (p : Nat) : Except (Nat × Nat) (List Tk) := S (l.drop (skp false l)) (p + skp false l)

theorem skp_le : ∀ (b : Bool) (l : List UInt8), skp b l ≤ l.length
  | _, [] => by cases ‹Bool› <;> exact Nat.le_refl _
  | true, c :: cs => by
    have h1 := skp_le false cs
    have h2 := skp_le true cs
    unfold skp
    split <;> (rw [List.length_cons]; omega)
  | false, c :: cs => by
    have h1 := skp_le false cs
    have h2 := skp_le true cs
    unfold skp
    rw [List.length_cons]
    split
    · omega
    · split <;> omega
theorem skp_take : ∀ (b : Bool) (l : List UInt8), skp b (l.take (skp b l)) = skp b l
  | _, [] => by cases ‹Bool› <;> rfl
  | true, c :: cs => by
    have h1 := skp_take false cs
    have h2 := skp_take true cs
    by_cases h : c.toNat = 10
    · have e : skp true (c :: cs) = skp false cs + 1 := by simp only [skp, if_pos h]; omega
      rw [e, List.take_succ_cons]
      simp only [skp, if_pos h]
      omega
    · have e : skp true (c :: cs) = skp true cs + 1 := by simp only [skp, if_neg h]; omega
      rw [e, List.take_succ_cons]
      simp only [skp, if_neg h]
      omega
  | false, c :: cs => by
    have h1 := skp_take false cs
    have h2 := skp_take true cs
    by_cases h : c.toNat = 35
    · have e : skp false (c :: cs) = skp true cs + 1 := by simp only [skp, if_pos h]; omega
      rw [e, List.take_succ_cons]
      simp only [skp, if_pos h]
      omega
    · by_cases g : isBl c.toNat = true
      · have e : skp false (c :: cs) = skp false cs + 1 := by simp only [skp, if_neg h, if_pos g]; omega
        rw [e, List.take_succ_cons]
        simp only [skp, if_neg h, if_pos g]
        omega
      · have e : skp false (c :: cs) = 0 := by simp only [skp, if_neg h, if_neg g]
        rw [e]
        rfl
theorem rn_le (p : Nat → Bool) : ∀ l : List UInt8, rn p l ≤ l.length
  | [] => Nat.le_refl _
  | c :: cs => by
    have h := rn_le p cs
    unfold rn
    rw [List.length_cons]
    split <;> omega
theorem sgn_le (a b : Nat) : sgn a b ≤ 2 := by
  unfold sgn
  repeat' split
  all_goals omega
theorem sgn_end (a : Nat) : sgn a 0 ≤ 1 := by
  unfold sgn
  repeat' split
  all_goals omega
theorem ln_le : ∀ l : List UInt8, ln l ≤ l.length
  | [] => Nat.le_refl _
  | c :: cs => by
    show (if isLt c.toNat then rn isWb (c :: cs) else if isDg c.toNat then rn isDg (c :: cs) else sgn c.toNat (bt cs 0)) ≤ _
    split
    · exact rn_le _ _
    · split
      · exact rn_le _ _
      · cases cs with
        | nil => exact sgn_end c.toNat
        | cons d ds => have := sgn_le c.toNat (bt (d :: ds) 0); rw [List.length_cons, List.length_cons]; omega
theorem off_le (r : List UInt8) : off r ≤ r.length := by
  have h1 := ln_le r
  have h2 := skp_le false (r.drop (ln r))
  rw [List.length_drop] at h2
  unfold off
  omega
theorem er_ln {r : List UInt8} (h : er r = 0) : 0 < ln r := by
  unfold er erOf at h
  by_cases e : ln r = 0
  · rw [if_pos e] at h; omega
  · omega
theorem off_pos {r : List UInt8} (h : er r = 0) : 0 < off r := by have := er_ln h; unfold off; omega
theorem nxt_length (r : List UInt8) : (nxt r).length = r.length - off r := List.length_drop
theorem lexd_fuel : ∀ (f g : Nat) (r : List UInt8) (p : Nat), r.length < f → r.length < g → lexd f r p = lexd g r p
  | 0, _, _, _, h, _ => by omega
  | _, 0, _, _, _, h => by omega
  | f + 1, g + 1, [], p, _, _ => rfl
  | f + 1, g + 1, c :: cs, p, hf, hg => by
    show (if er (c :: cs) = 0 then (lexd f (nxt (c :: cs)) (p + off (c :: cs))).map (fun L => tk (c :: cs) p :: L) else .error (er (c :: cs), p)) = if er (c :: cs) = 0 then (lexd g (nxt (c :: cs)) (p + off (c :: cs))).map (fun L => tk (c :: cs) p :: L) else .error (er (c :: cs), p)
    by_cases h : er (c :: cs) = 0
    · rw [if_pos h, if_pos h, lexd_fuel f g]
      · have := off_pos h; rw [nxt_length]; rw [List.length_cons] at hf ⊢; omega
      · have := off_pos h; rw [nxt_length]; rw [List.length_cons] at hg ⊢; omega
    · rw [if_neg h, if_neg h]
theorem S_nil (p : Nat) : S [] p = .ok [⟨0, [], 0, p⟩] := rfl
theorem S_bad {r : List UInt8} (p : Nat) (hr : r ≠ []) (h : er r ≠ 0) : S r p = .error (er r, p) := by
  cases r with
  | nil => exact absurd rfl hr
  | cons c cs => exact if_neg h
theorem S_tok {r : List UInt8} (p : Nat) (hr : r ≠ []) (h : er r = 0) : S r p = (S (nxt r) (p + off r)).map (fun L => tk r p :: L) := by
  cases r with
  | nil => exact absurd rfl hr
  | cons c cs =>
    have e : S (c :: cs) p = (lexd ((c :: cs).length) (nxt (c :: cs)) (p + off (c :: cs))).map (fun L => tk (c :: cs) p :: L) := if_pos h
    rw [e]
    unfold S
    rw [lexd_fuel]
    · have := off_pos h; have := off_le (c :: cs); rw [nxt_length]; omega
    · omega
/-- by the length of what is left -/
theorem left_ind {Q : List UInt8 → Prop} (h0 : Q []) (hb : ∀ r, r ≠ [] → er r ≠ 0 → Q r) (ht : ∀ r, r ≠ [] → er r = 0 → Q (nxt r) → Q r) : ∀ r, Q r := by
  have key : ∀ n r, List.length r ≤ n → Q r := by
    intro n
    induction n with
    | zero => intro r hr; cases r with
      | nil => exact h0
      | cons c cs => rw [List.length_cons] at hr; omega
    | succ n ih =>
      intro r hr
      by_cases e : r = []
      · rw [e]; exact h0
      · by_cases g : er r = 0
        · refine ht r e g (ih _ ?_)
          have := off_pos g
          rw [nxt_length]
          omega
        · exact hb r e g
  exact fun r => key r.length r (Nat.le_refl _)
theorem S_cases {r : List UInt8} {p : Nat} {L : List Tk} (h : S r p = .ok L) :
    (r = [] ∧ L = [⟨0, [], 0, p⟩]) ∨ (r ≠ [] ∧ er r = 0 ∧ ∃ M, L = tk r p :: M ∧ S (nxt r) (p + off r) = .ok M) := by
  by_cases e : r = []
  · subst e
    rw [S_nil] at h
    injection h with h
    exact .inl ⟨rfl, h.symm⟩
  · by_cases g : er r = 0
    · rw [S_tok p e g] at h
      cases hn : S (nxt r) (p + off r) with
      | error x => rw [hn] at h; cases h
      | ok M =>
        rw [hn] at h
        injection h with h
        exact .inr ⟨e, g, M, h.symm, rfl⟩
    · rw [S_bad p e g] at h; cases h
theorem S_some {r : List UInt8} {p : Nat} {L : List Tk} (h : S r p = .ok L) : 0 < L.length := by
  rcases S_cases h with ⟨_, e⟩ | ⟨_, _, M, e, _⟩
  · rw [e]; exact Nat.zero_lt_one
  · rw [e, List.length_cons]; omega
theorem er_S {r : List UInt8} : ∀ {p e q : Nat}, S r p = .error (e, q) → e ≠ 0 ∧ p ≤ q ∧ q < p + r.length := by
  refine left_ind (Q := fun r => ∀ {p e q : Nat}, S r p = .error (e, q) → e ≠ 0 ∧ p ≤ q ∧ q < p + r.length) ?_ ?_ ?_ r
  · intro p e q h; cases h
  · intro r hr hb p e q h
    rw [S_bad p hr hb] at h
    injection h with h
    injection h with h1 h2
    have : 0 < r.length := List.length_pos_iff.2 hr
    exact ⟨by omega, by omega, by omega⟩
  · intro r hr hb ih p e q h
    rw [S_tok p hr hb] at h
    cases hn : S (nxt r) (p + off r) with
    | error x =>
      rw [hn] at h
      injection h with h
      subst h
      obtain ⟨h1, h2, h3⟩ := ih hn
      rw [nxt_length] at h3
      have := off_le r
      exact ⟨h1, by omega, by omega⟩
    | ok M => rw [hn] at h; cases h
theorem S_length {r : List UInt8} : ∀ {p : Nat} {L : List Tk}, S r p = .ok L → L.length ≤ r.length + 1 := by
  refine left_ind (Q := fun r => ∀ {p : Nat} {L : List Tk}, S r p = .ok L → L.length ≤ r.length + 1) ?_ ?_ ?_ r
  · intro p L h; injection h with h; subst h; exact Nat.le_refl _
  · intro r hr hb p L h; rw [S_bad p hr hb] at h; cases h
  · intro r hr hb ih p L h
    rcases S_cases h with ⟨e, _⟩ | ⟨_, _, M, e, hM⟩
    · exact absurd e hr
    · have := ih hM
      rw [nxt_length] at this
      have := off_pos hb
      have := off_le r
      rw [e, List.length_cons]
      omega
/-- who stands elsewhere -/
def Tk.moved (d : Nat) (t : Tk) : Tk := { t with place := t.place + d }
def shift (d : Nat) : Except (Nat × Nat) (List Tk) → Except (Nat × Nat) (List Tk)
  | .ok L => .ok (L.map (Tk.moved d))
  | .error (e, q) => .error (e, q + d)
theorem S_shift (d : Nat) (r : List UInt8) : ∀ p, S r (p + d) = shift d (S r p) := by
  refine left_ind (Q := fun r => ∀ p, S r (p + d) = shift d (S r p)) ?_ ?_ ?_ r
  · intro p; rfl
  · intro r hr hb p; rw [S_bad p hr hb, S_bad (p + d) hr hb]; rfl
  · intro r hr hb ih p
    rw [S_tok p hr hb, S_tok (p + d) hr hb, show p + d + off r = p + off r + d by omega, ih]
    cases S (nxt r) (p + off r) with
    | error x => obtain ⟨a, b⟩ := x; rfl
    | ok M => rfl
theorem T_shift (d : Nat) (l : List UInt8) (p : Nat) : T l (p + d) = shift d (T l p) := by
  unfold T
  rw [show p + d + skp false l = p + skp false l + d by omega, S_shift]
/-- a remark on a line of its own, ahead of a text -/
def dot : List UInt8 := [9, 35, 120, 10]
theorem skp_dot (l : List UInt8) : skp false (dot ++ l) = 4 + skp false l := by
  show 1 + (1 + (1 + (1 + skp false l))) = _
  omega
theorem T_dot (l : List UInt8) (p : Nat) : T (dot ++ l) p = T l (p + 4) := by
  unfold T
  rw [skp_dot, show (4 + skp false l) = dot.length + skp false l from rfl, List.drop_append, show p + (dot.length + skp false l) = p + 4 + skp false l from (Nat.add_assoc _ _ _).symm]
  rw [show dot.length + skp false l - dot.length = skp false l by omega, List.drop_of_length_le (by omega), List.nil_append]
def dots : Nat → List UInt8
  | 0 => []
  | n + 1 => dots n ++ dot
theorem dots_length : ∀ n, (dots n).length = 4 * n
  | 0 => rfl
  | n + 1 => by show (dots n ++ dot).length = _; rw [List.length_append, dots_length n]; show 4 * n + 4 = _; omega
theorem T_dots : ∀ (n : Nat) (l : List UInt8) (p : Nat), T (dots n ++ l) p = T l (p + 4 * n)
  | 0, _, _ => rfl
  | n + 1, l, p => by
    show T (dots n ++ dot ++ l) p = _
    rw [List.append_assoc, T_dots n, T_dot, show p + 4 * n + 4 = p + 4 * (n + 1) by omega]
/-- tokens' bytes, each with a blank behind -/
def joined : List Tk → List UInt8
  | [] => []
  | t :: L => t.text ++ 32 :: joined L
/-- alike, but for where they stand -/
def Tk.like (a b : Tk) : Prop := a.kind = b.kind ∧ a.text = b.text ∧ a.n = b.n
def Like : List Tk → List Tk → Prop
  | [], [] => True
  | a :: A, b :: B => a.like b ∧ Like A B
  | _, _ => False
theorem Like.length : ∀ {A B : List Tk}, Like A B → A.length = B.length
  | [], [], _ => rfl
  | _ :: _, _ :: _, h => by rw [List.length_cons, List.length_cons, Like.length h.2]
  | [], _ :: _, h => by cases h
  | _ :: _, [], h => by cases h
theorem Like.at : ∀ {A B : List Tk}, Like A B → ∀ (i : Nat) (a b : Tk), A[i]? = some a → B[i]? = some b → a.like b
  | [], [], _, i, a, b, ha, _ => by simp at ha
  | x :: A, y :: B, h, 0, a, b, ha, hb => by simp at ha hb; subst ha; subst hb; exact h.1
  | x :: A, y :: B, h, i + 1, a, b, ha, hb => by simp at ha hb; exact Like.at h.2 i a b ha hb
  | [], _ :: _, h, _, _, _, _, _ => by cases h
  | _ :: _, [], h, _, _, _, _, _ => by cases h
/-- a run of bytes of one sort, cut off, with a byte of another sort behind -/
theorem rn_cut (p : Nat → Bool) (hp : p 32 = false) (J : List UInt8) : ∀ r : List UInt8, rn p (r.take (rn p r) ++ 32 :: J) = rn p r
  | [] => by show (if p (32 : UInt8).toNat then 1 + rn p J else 0) = 0; rw [show (32 : UInt8).toNat = 32 from rfl, hp]; rfl
  | c :: cs => by
    by_cases h : p c.toNat = true
    · have e : rn p (c :: cs) = rn p cs + 1 := by simp only [rn, if_pos h]; omega
      rw [e, List.take_succ_cons, List.cons_append]
      simp only [rn, if_pos h]
      rw [rn_cut p hp J cs]
      omega
    · have e : rn p (c :: cs) = 0 := by simp only [rn, if_neg h]
      rw [e]
      show (if p (32 : UInt8).toNat then 1 + rn p J else 0) = 0
      rw [show (32 : UInt8).toNat = 32 from rfl, hp]
      rfl
theorem sgn_blank {a b : Nat} (h : sgn a b = 1) : sgn a 32 = 1 := by
  unfold sgn at h ⊢
  repeat' split at h
  all_goals first
    | (exfalso; omega)
    | skip
  all_goals simp_all
theorem ln_cut (r J : List UInt8) (h : 0 < ln r) : ln (r.take (ln r) ++ 32 :: J) = ln r ∧ k0 (r.take (ln r) ++ 32 :: J) = k0 r := by
  cases r with
  | nil => exact absurd h (by decide)
  | cons c cs =>
    obtain ⟨n, hn⟩ : ∃ n, ln (c :: cs) = n + 1 := ⟨ln (c :: cs) - 1, by omega⟩
    have hk : k0 ((c :: cs).take (ln (c :: cs)) ++ 32 :: J) = k0 (c :: cs) := by rw [hn]; rfl
    refine ⟨?_, hk⟩
    by_cases h1 : isLt c.toNat = true
    · have e : ln (c :: cs) = rn isWb (c :: cs) := by simp only [ln, if_pos h1]
      have g := rn_cut isWb (by decide) J (c :: cs)
      rw [← e, hn, List.take_succ_cons, List.cons_append] at g
      rw [hn, List.take_succ_cons, List.cons_append]
      simp only [ln, if_pos h1]
      exact g
    · by_cases h2 : isDg c.toNat = true
      · have e : ln (c :: cs) = rn isDg (c :: cs) := by simp only [ln, if_neg h1, if_pos h2]
        have g := rn_cut isDg (by decide) J (c :: cs)
        rw [← e, hn, List.take_succ_cons, List.cons_append] at g
        rw [hn, List.take_succ_cons, List.cons_append]
        simp only [ln, if_neg h1, if_pos h2]
        exact g
      · have e : ln (c :: cs) = sgn c.toNat (bt cs 0) := by simp only [ln, if_neg h1, if_neg h2]
        have hs := sgn_le c.toNat (bt cs 0)
        rw [hn, List.take_succ_cons, List.cons_append]
        simp only [ln, if_neg h1, if_neg h2]
        rw [e] at hn
        have hl := ln_le (c :: cs)
        rw [e, List.length_cons] at hl
        rcases Nat.lt_or_ge n 1 with g | g
        · obtain rfl : n = 0 := by omega
          show sgn c.toNat 32 = 1
          exact sgn_blank hn
        · obtain rfl : n = 1 := by omega
          cases cs with
          | nil => simp at hl; omega
          | cons d ds =>
            show sgn c.toNat (bt (d :: ds) 0) = _
            exact hn
theorem er_cut (r J : List UInt8) (h : er r = 0) : er (r.take (ln r) ++ 32 :: J) = 0 ∧ (tk (r.take (ln r) ++ 32 :: J) 0).like (tk r 0) ∧ ln (r.take (ln r) ++ 32 :: J) = ln r := by
  obtain ⟨h1, h2⟩ := ln_cut r J (er_ln h)
  have h3 : (r.take (ln r) ++ 32 :: J).take (ln r) = r.take (ln r) := by
    rw [List.take_append_of_le_length (by rw [List.length_take]; have := ln_le r; omega), List.take_take, Nat.min_self]
  refine ⟨?_, ⟨?_, ?_, ?_⟩, h1⟩
  · unfold er
    rw [h1, h2, h3]
    exact h
  · show kdOf _ _ = kdOf _ _
    rw [h1, h2, h3]
  · show List.take _ _ = List.take _ _
    rw [h1, h3]
  · show nmOf _ _ = nmOf _ _
    rw [h1, h2, h3]
/-- a token does not begin with a blank or a remark -/
theorem sgn_blanks {a b : Nat} (h : a = 35 ∨ isBl a = true) : sgn a b = 0 := by
  unfold isBl at h
  simp at h
  unfold sgn
  repeat' split
  all_goals omega
theorem skp_tok {r : List UInt8} (h : 0 < ln r) : skp false r = 0 := by
  cases r with
  | nil => rfl
  | cons c cs =>
    have hn : ¬ (c.toNat = 35 ∨ isBl c.toNat = true) := by
      intro g
      have g' := g
      unfold isBl at g'
      simp at g'
      have h1 : isLt c.toNat = false := by unfold isLt; simp; omega
      have h2 : isDg c.toNat = false := by unfold isDg; simp; omega
      have e : ln (c :: cs) = sgn c.toNat (bt cs 0) := by simp [ln, h1, h2]
      rw [e, sgn_blanks g] at h
      omega
    have n1 : ¬ c.toNat = 35 := fun g => hn (.inl g)
    have n2 : ¬ isBl c.toNat = true := fun g => hn (.inr g)
    simp only [skp, if_neg n1, if_neg n2]
theorem T_blank (l : List UInt8) (p : Nat) : T (32 :: l) p = T l (p + 1) := by
  unfold T
  have e : skp false (32 :: l) = skp false l + 1 := by show 1 + skp false l = _; omega
  rw [e, List.drop_succ_cons, show p + (skp false l + 1) = p + 1 + skp false l by omega]
/-- joined by blanks, tokens are read as they are -/
theorem T_joined {r : List UInt8} : ∀ {p : Nat} {L : List Tk}, S r p = .ok L → ∀ q, ∃ M, T (joined L) q = .ok M ∧ Like M L := by
  refine left_ind (Q := fun r => ∀ {p : Nat} {L : List Tk}, S r p = .ok L → ∀ q, ∃ M, T (joined L) q = .ok M ∧ Like M L) ?_ ?_ ?_ r
  · intro p L h q
    injection h with h
    subst h
    exact ⟨_, (T_blank [] q).trans (S_nil _), ⟨rfl, rfl, rfl⟩, trivial⟩
  · intro r hr hb p L h; rw [S_bad p hr hb] at h; cases h
  · intro r hr hb ih p L h q
    rcases S_cases h with ⟨e, _⟩ | ⟨_, _, M, rfl, hM⟩
    · exact absurd e hr
    · obtain ⟨h1, h2, h3⟩ := er_cut r (joined M) hb
      have hj : joined (tk r p :: M) = r.take (ln r) ++ 32 :: joined M := rfl
      rw [hj]
      obtain ⟨R, hR⟩ : ∃ R, R = r.take (ln r) ++ 32 :: joined M := ⟨_, rfl⟩
      rw [← hR] at h1 h2 h3 ⊢
      have hne : R ≠ [] := by intro e; rw [e] at h1; exact absurd h1 (by decide)
      have hz := skp_tok (er_ln h1)
      have hlr := ln_le r
      have hd : R.drop (ln R) = 32 :: joined M := by
        rw [h3, hR, List.drop_append_of_le_length (by rw [List.length_take]; omega), List.drop_of_length_le (by rw [List.length_take]; omega), List.nil_append]
      have ho : off R = ln r + skp false (32 :: joined M) := by unfold off; rw [hd, h3]
      have hN : nxt R = (32 :: joined M).drop (skp false (32 :: joined M)) := by
        unfold nxt
        rw [ho, ← h3, ← hd, List.drop_drop]
      obtain ⟨M', hM', hL⟩ := ih hM (q + ln r + 1)
      have hT : S (nxt R) (q + off R) = .ok M' := by
        have := T_blank (joined M) (q + ln r)
        rw [hM'] at this
        unfold T at this
        rw [hN, ho, ← Nat.add_assoc]
        exact this
      refine ⟨tk R q :: M', ?_, h2, hL⟩
      unfold T
      rw [hz, List.drop_zero, Nat.add_zero, S_tok q hne h1, hT]
      rfl
theorem joined_length {r : List UInt8} : ∀ {p : Nat} {L : List Tk}, S r p = .ok L → (joined L).length ≤ 2 * r.length + 1 := by
  refine left_ind (Q := fun r => ∀ {p : Nat} {L : List Tk}, S r p = .ok L → (joined L).length ≤ 2 * r.length + 1) ?_ ?_ ?_ r
  · intro p L h; injection h with h; subst h; exact Nat.le_refl _
  · intro r hr hb p L h; rw [S_bad p hr hb] at h; cases h
  · intro r hr hb ih p L h
    rcases S_cases h with ⟨e, _⟩ | ⟨_, _, M, rfl, hM⟩
    · exact absurd e hr
    · have := ih hM
      rw [nxt_length] at this
      have := er_ln hb
      have := off_le r
      have hj : joined (tk r p :: M) = r.take (ln r) ++ 32 :: joined M := rfl
      have h1 : ln r ≤ off r := Nat.le_add_right _ _
      have h2 := ln_le r
      rw [hj, List.length_append, List.length_cons, List.length_take]
      omega
theorem kd_pos (r : List UInt8) (p : Nat) : (tk r p).kind ≠ 0 := by
  show kdOf (k0 r) _ ≠ 0
  unfold kdOf
  split
  · omega
  · cases r with
    | nil => show 4 ≠ 0; omega
    | cons c cs => unfold k0; repeat' split
                   all_goals omega
end Go.Proofs.YtagacfcpepoaoaaGreatDoor

namespace Go.Proofs.YtagacfcpepoaoaaGreatDoor
set_option linter.unusedVariables false

/-- a node as it is read; ka, kc: where its list of kids lies, and its room -/
structure Nd where
  kind : Int
  ka : Option Addr
  kc : Nat
  kids : List Int
  n : Int
  s : ByteArray
  at_ : Int
def Nd.zero : Nd := ⟨0, none, 0, [], 0, ⟨#[]⟩, 0⟩
/-- the node at a place -/
def nd (l : List Nd) (i : Nat) : Nd := l.getD i Nd.zero
/-- its name's bytes -/
def Nd.t (x : Nd) : List UInt8 := x.s.data.toList
/-- all kids are ahead -/
def Ahead (l : List Nd) : Prop := ∀ i, i < l.length → ∀ k ∈ (nd l i).kids, 0 ≤ k ∧ k < (i : Int)
/-- what is told of a node by what is told of its kids -/
def fold {α : Type} (f : Nd → List α → α) (l : List Nd) : Nat → Nat → α
  | 0, i => f (nd l i) []
  | g + 1, i => f (nd l i) ((nd l i).kids.map (fun k => fold f l g k.toNat))
def val {α : Type} (f : Nd → List α → α) (l : List Nd) (i : Nat) : α := fold f l i i
theorem fold_stable {α : Type} {f : Nd → List α → α} {l : List Nd} (hA : Ahead l) : ∀ n i, i < n → i < l.length → ∀ g, i ≤ g → fold f l g i = val f l i := by
  intro n
  induction n with
  | zero => intro i h; omega
  | succ n ih =>
    intro i hn hi g hg
    have hk := hA i hi
    cases i with
    | zero =>
      have h0 : (nd l 0).kids = [] := by
        cases h : (nd l 0).kids with
        | nil => rfl
        | cons a r => have := hk a (by rw [h]; simp); omega
      cases g with
      | zero => rfl
      | succ g => unfold val; simp only [fold, h0, List.map_nil]
    | succ i =>
      cases g with
      | zero => omega
      | succ g =>
        unfold val
        simp only [fold]
        congr 1
        apply List.map_congr_left
        intro k hk'
        have := hk k hk'
        have hl : k.toNat < l.length := by omega
        rw [ih k.toNat (by omega) hl g (by omega), ih k.toNat (by omega) hl i (by omega)]
theorem val_eq {α : Type} {f : Nd → List α → α} {l : List Nd} (hA : Ahead l) {i : Nat} (hi : i < l.length) : val f l i = f (nd l i) ((nd l i).kids.map (fun k => val f l k.toNat)) := by
  rw [← fold_stable hA (i + 1) i (by omega) hi (i + 1) (by omega)]
  simp only [fold]
  congr 1
  apply List.map_congr_left
  intro k hk
  have := hA i hi k hk
  exact fold_stable hA (k.toNat + 1) k.toNat (by omega) (by omega) i (by omega)
/-- how high -/
def hgf (_ : Nd) (hs : List Nat) : Nat := hs.foldl (fun h x => max h (1 + x)) 1
def hgt (l : List Nd) (i : Nat) : Nat := val hgf l i
/-- how many nodes -/
def szf (_ : Nd) (zs : List Nat) : Nat := 1 + zs.sum
def sz (l : List Nd) (i : Nat) : Nat := val szf l i

/-- bytes -/
def tLt (n : Nat) : Bool := (decide (97 ≤ n) && decide (n ≤ 122)) || (decide (65 ≤ n) && decide (n ≤ 90)) || n == 95
def tDg (n : Nat) : Bool := decide (48 ≤ n) && decide (n ≤ 57)
def tKeys : List (List UInt8) := [[102, 110], [118, 97, 114], [105, 102], [101, 108, 115, 101], [119, 104, 105, 108, 101], [102, 111, 114], [98, 114, 101, 97, 107], [99, 111, 110, 116, 105, 110, 117, 101], [114, 101, 116, 117, 114, 110], [112, 114, 105, 110, 116], [108, 101, 110], [110, 101, 119], [116, 114, 117, 101], [102, 97, 108, 115, 101], [110, 105, 108], [105, 110, 116], [98, 111, 111, 108], [97, 114, 114]]
def tKey (t : List UInt8) : Bool := tKeys.any (fun k => t == k)
/-- a name -/
def nameB (t : List UInt8) : Bool := decide (0 < t.length) && decide (t.length ≤ 32) && !tDg (bt t 0) && t.all (fun c => tLt c.toNat || tDg c.toNat) && !tKey t
/-- the words -/
def tWords : List (List UInt8) := [[], [], [], [110, 105, 108], [], [], [110, 101, 103], [110, 111, 116], [97, 116], [108, 101, 110], [110, 101, 119], [99, 97, 108, 108], [118, 97, 114], [115, 101, 116], [112, 117, 116], [105, 102], [119, 104, 105, 108, 101], [102, 111, 114], [98, 114, 101, 97, 107], [99, 111, 110, 116, 105, 110, 117, 101], [114, 101, 116, 117, 114, 110], [112, 114, 105, 110, 116], [100, 111], [98, 108, 111, 99, 107], [], [102, 110], [112, 114, 111, 103]]
def tSigns : List (List UInt8) := [[], [124, 124], [38, 38], [61, 61], [33, 61], [60], [60, 61], [62], [62, 61], [43], [45], [43, 37], [45, 37], [42], [47], [37], [42, 37]]
def tKinds : List (List UInt8) := [[], [105, 110, 116], [98, 111, 111, 108], [97, 114, 114]]
def sgnOf (op : Int) : List UInt8 := if 0 ≤ op ∧ op ≤ 16 then tSigns.getD op.toNat [] else []
def kindW (k : Int) : List UInt8 := if 0 ≤ k ∧ k ≤ 3 then tKinds.getD k.toNat [] else []
def opOf (t : List UInt8) : Nat := if t = [] then 0 else if t ∈ tSigns then tSigns.idxOf t else 0
/-- what kinds have -/
def isEx (k : Int) : Bool := decide (1 ≤ k) && decide (k ≤ 11)
def isSt (k : Int) : Bool := decide (12 ≤ k) && decide (k ≤ 22)
def named (k : Int) : Bool := decide (k ∈ [(4 : Int), 11, 12, 13, 14, 17, 24, 25])
def numB (k n : Int) : Bool :=
  if k = 1 then decide (0 ≤ n) else if k = 2 then decide (n = 0) || decide (n = 1) else if k = 5 then decide (1 ≤ n) && decide (n ≤ 16)
  else if k = 24 ∨ k = 25 then decide (1 ≤ n) && decide (n ≤ 3) else decide (n = 0)
def exprs (ks : List Int) (n : Nat) : Bool := decide (n ≤ ks.length) && (ks.take n).all isEx
def alls (ks : List Int) (k : Int) (m : Nat) : Bool := ks.all (fun x => x == k) && decide (ks.length ≤ m)
def kidsB (k : Int) (ks : List Int) : Bool :=
  if k = 5 ∨ k = 8 ∨ k = 14 then decide (ks.length = 2) && exprs ks 2
  else if k = 6 ∨ k = 7 ∨ k = 9 ∨ k = 10 ∨ k = 12 ∨ k = 13 ∨ k = 20 ∨ k = 21 then decide (ks.length = 1) && exprs ks 1
  else if k = 11 then decide (ks.length ≤ 8) && exprs ks ks.length
  else if k = 15 then exprs ks 1 && decide (2 ≤ ks.length) && alls (ks.drop 1) 23 2
  else if k = 16 then exprs ks 1 && decide (ks.length = 2) && alls (ks.drop 1) 23 1
  else if k = 17 then exprs ks 2 && decide (ks.length = 3) && alls (ks.drop 2) 23 1
  else if k = 22 then decide (ks.length = 1) && decide (ks.getD 0 0 = 11)
  else if k = 23 then ks.all isSt
  else if k = 25 then decide (1 ≤ ks.length) && alls (ks.take (ks.length - 1)) 24 8 && decide (ks.getD (ks.length - 1) 0 = 23)
  else if k = 26 then alls ks 25 200
  else decide (ks.length = 0)
def ownB (x : Nd) : Bool :=
  decide (1 ≤ x.kind) && decide (x.kind ≤ 26) && decide (0 ≤ x.at_) && (if named x.kind then nameB x.t else decide (x.t = [])) && numB x.kind x.n
/-- the kinds of a node's kids -/
def kk (l : List Nd) (x : Nd) : List Int := x.kids.map (fun k => (nd l k.toNat).kind)
def fitB (l : List Nd) (x : Nd) : Bool := ownB x && kidsB x.kind (kk l x)
/-- all kids of the first i nodes -/
def allK (l : List Nd) (i : Nat) : List Int := (l.take i).flatMap (fun x => x.kids)
/-- a tree, as far as kids go -/
def IsT (l : List Nd) : Prop := 0 < l.length ∧ Ahead l ∧ (allK l l.length).Nodup ∧ (allK l l.length).length = l.length - 1
def Fits (l : List Nd) : Prop := ∀ i, i < l.length → fitB l (nd l i) = true
/-- Right -/
def Rt (l : List Nd) : Prop := IsT l ∧ Fits l ∧ hgt l (l.length - 1) ≤ 200
/-- the text -/
def wordOf (x : Nd) : List UInt8 := if x.kind = 1 then Lib.itoa x.n else if x.kind = 2 then Lib.formatBool (x.n == 1) else if x.kind = 5 then sgnOf x.n else tWords.getD x.kind.toNat []
def kwOf (x : Nd) : List UInt8 := if x.kind = 24 ∨ x.kind = 25 then kindW x.n else []
def hd (x : Nd) : List UInt8 := Lib.join ([wordOf x, x.t, kwOf x].filter (fun t => !t.isEmpty)) [32]
def txf (x : Nd) (ts : List (List UInt8)) : List UInt8 := if x.kind ≤ 4 then hd x else [40] ++ hd x ++ ts.flatMap (fun t => 32 :: t) ++ [41]
def tx (l : List Nd) (i : Nat) : List UInt8 := val txf l i
theorem hgt_eq {l : List Nd} (hA : Ahead l) {i : Nat} (hi : i < l.length) : hgt l i = ((nd l i).kids.map (fun k => hgt l k.toNat)).foldl (fun h x => max h (1 + x)) 1 := val_eq hA hi
theorem sz_eq {l : List Nd} (hA : Ahead l) {i : Nat} (hi : i < l.length) : sz l i = 1 + ((nd l i).kids.map (fun k => sz l k.toNat)).sum := val_eq hA hi
theorem tx_eq {l : List Nd} (hA : Ahead l) {i : Nat} (hi : i < l.length) : tx l i = txf (nd l i) ((nd l i).kids.map (fun k => tx l k.toNat)) := val_eq hA hi
end Go.Proofs.YtagacfcpepoaoaaGreatDoor

namespace Go.Proofs.YtagacfcpepoaoaaGreatDoor
set_option linter.unusedVariables false

/-- a reader that found nothing wrong: the tokens that are left, the nodes that were laid, and how high each is -/
structure PS where
  r : List Tk
  l : List Nd
  h : List Nat
/-- the next token -/
def PS.tok (s : PS) : Tk := s.r.headD ⟨0, [], 0, 0⟩
/-- .. is this key word or sign -/
def sees (k : Tk) (t : List UInt8) : Bool := (k.kind == 3 || k.kind == 4) && k.text == t
def PS.is (s : PS) (t : List UInt8) : Bool := sees s.tok t
def PS.next (s : PS) : PS := { s with r := s.r.tail }
/-- a node as the document says it: it lies nowhere -/
def En (kind : Int) (kids : List Int) (n : Int) (s : ByteArray) (at_ : Int) : Nd := ⟨kind, none, 0, kids, n, s, at_⟩
abbrev Flt := Nat × Nat
abbrev Out := Except Flt (List Int × PS)
/-- how high a node is over those that were laid -/
def hstep (h : List Nat) (a : Nat) (k : Int) : Nat := if 0 ≤ k ∧ k < (h.length : Int) then max a (h.getD k.toNat 0 + 1) else a
def high (h : List Nat) (ks : List Int) : Nat := ks.foldl (hstep h) 1
/-- a node is laid -/
def lay (x : Nd) (s : PS) : Out :=
  if 200 < high s.h x.kids then .error (4, x.at_.toNat) else .ok ([(s.l.length : Int)], ⟨s.r, s.l ++ [x], s.h ++ [high s.h x.kids]⟩)
/-- what is to be read -/
inductive Md where
  | chain (lv : Nat)
  | loop (lv : Nat) (left : Int)
  | front
  | idx
  | more (p : Int)
  | single
  | inner (a b : List UInt8)
  | call (nm : ByteArray) (at_ : Nat)
  | args (acc : List Int)
/-- operators of a strength, from 0 on: the first and the last one -/
def opFirst (lv : Nat) : Nat := [1, 2, 3, 9, 13].getD lv 0
def opLast (lv : Nat) : Nat := [1, 2, 8, 12, 16].getD lv 0
/-- the operator, from a on, of which there are n more -/
def opFrom (k : Tk) (a : Nat) : Nat → Option Nat
  | 0 => none
  | n + 1 => if sees k (tSigns.getD a []) then some a else opFrom k (a + 1) n
def opAt (lv : Nat) (k : Tk) : Option Nat := opFrom k (opFirst lv) (opLast lv + 1 - opFirst lv)
/-- what goes on with what was read -/
def Out.go (o : Option Out) (f : List Int → PS → Option Out) : Option Out := match o with
  | none => none
  | some (.error e) => some (.error e)
  | some (.ok (p, s)) => f p s
def hd1 (l : List Int) : Int := l.headD 0
def rp : List UInt8 := [41]
def lp : List UInt8 := [40]
def rb : List UInt8 := [93]
def lb : List UInt8 := [91]
def comma : List UInt8 := [44]
def minus : List UInt8 := [45]
def bang : List UInt8 := [33]
def wTrue : List UInt8 := [116, 114, 117, 101]
def wFalse : List UInt8 := [102, 97, 108, 115, 101]
def wNil : List UInt8 := [110, 105, 108]
def wLen : List UInt8 := [108, 101, 110]
def wNew : List UInt8 := [110, 101, 119]
/-- the reader, with fuel; none: too little of it -/
def rd : Nat → Md → Nat → PS → Option Out
  | 0, _, _, _ => none
  | n + 1, .chain lv, d, s => if lv = 5 then rd n .front d s else Out.go (rd n (.chain (lv + 1)) d s) fun p s1 => rd n (.loop lv (hd1 p)) d s1
  | n + 1, .loop lv p, d, s => match opAt lv s.tok with
    | none => some (.ok ([p], s))
    | some op => Out.go (rd n (.chain (lv + 1)) d s.next) fun q s1 => Out.go (some (lay (En 5 [p, hd1 q] op ⟨#[]⟩ s.tok.place) s1)) fun k s2 => if lv = 2 then some (.ok (k, s2)) else rd n (.loop lv (hd1 k)) d s2
  | n + 1, .front, d, s =>
    if s.is minus || s.is bang then
      (if 200 ≤ d then some (.error (4, s.tok.place))
       else Out.go (rd n .front (d + 1) s.next) fun q s1 => some (lay (En (if s.is minus then 6 else 7) [hd1 q] 0 ⟨#[]⟩ s.tok.place) s1))
    else rd n .idx d s
  | n + 1, .idx, d, s => Out.go (rd n .single d s) fun p s1 => rd n (.more (hd1 p)) d s1
  | n + 1, .more p, d, s =>
    if s.is lb then Out.go (rd n (.inner lb rb) d s) fun q s1 => Out.go (some (lay (En 8 [p, hd1 q] 0 ⟨#[]⟩ s.tok.place) s1)) fun k s2 => rd n (.more (hd1 k)) d s2
    else some (.ok ([p], s))
  | n + 1, .inner a b, d, s =>
    if s.is a then
      (if 200 ≤ d then some (.error (4, s.tok.place))
       else Out.go (rd n (.chain 0) (d + 1) s.next) fun p s1 => if s1.is b then some (.ok (p, s1.next)) else some (.error (8, s1.tok.place)))
    else some (.error (8, s.tok.place))
  | n + 1, .call nm at_, d, s =>
    if s.is lp then
      (if 200 ≤ d then some (.error (4, s.tok.place))
       else Out.go (if s.next.is rp then some (.ok ([], s.next)) else rd n (.args []) (d + 1) s.next) fun l s1 => if s1.is rp then some (lay (En 11 l 0 nm at_) s1.next) else some (.error (8, s1.tok.place)))
    else some (.error (8, s.tok.place))
  | n + 1, .args acc, d, s =>
    if acc.length = 8 then some (.error (3, s.tok.place))
    else Out.go (rd n (.chain 0) d s) fun p s1 => if s1.is comma then rd n (.args (acc ++ [hd1 p])) d s1.next else some (.ok (acc ++ [hd1 p], s1))
  | n + 1, .single, d, s =>
    if s.is lp then rd n (.inner lp rp) d s
    else if s.is wTrue then some (lay (En 2 [] 1 ⟨#[]⟩ s.tok.place) s.next)
    else if s.is wFalse then some (lay (En 2 [] 0 ⟨#[]⟩ s.tok.place) s.next)
    else if s.is wNil then some (lay (En 3 [] 0 ⟨#[]⟩ s.tok.place) s.next)
    else if s.is wLen then Out.go (rd n (.inner lp rp) d s.next) fun q s1 => some (lay (En 9 [hd1 q] 0 ⟨#[]⟩ s.tok.place) s1)
    else if s.is wNew then Out.go (rd n (.inner lp rp) d s.next) fun q s1 => some (lay (En 10 [hd1 q] 0 ⟨#[]⟩ s.tok.place) s1)
    else if s.tok.kind = 2 then some (lay (En 1 [] s.tok.n ⟨#[]⟩ s.tok.place) s.next)
    else if s.tok.kind = 1 then
      (if s.next.is lp then rd n (.call ⟨s.tok.text.toArray⟩ s.tok.place) d s.next else some (lay (En 4 [] 0 ⟨s.tok.text.toArray⟩ s.tok.place) s.next))
    else some (.error (8, s.tok.place))
/-- more fuel changes nothing -/
theorem go_mono {o o' : Option Out} {f f' : List Int → PS → Option Out} {v : Out} (h : Out.go o f = some v) (ho : ∀ u, o = some u → o' = some u) (hf : ∀ p s u, f p s = some u → f' p s = some u) : Out.go o' f' = some v := by
  cases o with
  | none => cases h
  | some u =>
    rw [ho u rfl]
    cases u with
    | error e => exact h
    | ok x => exact hf _ _ _ h
theorem rd_mono : ∀ (n : Nat) (m : Md) (d : Nat) (s : PS) (v : Out), rd n m d s = some v → rd (n + 1) m d s = some v
  | 0, _, _, _, _, h => by cases h
  | n + 1, .chain lv, d, s, v, h => by
    have ih := rd_mono n
    rw [rd] at h ⊢
    split at h
    · rename_i g; rw [if_pos g]; exact ih _ _ _ _ h
    · rename_i g; rw [if_neg g]; exact go_mono h (fun u => ih _ _ _ u) (fun p s u => ih _ _ _ u)
  | n + 1, .loop lv p, d, s, v, h => by
    have ih := rd_mono n
    rw [rd] at h ⊢
    cases ho : opAt lv s.tok with
    | none => rw [ho] at h; exact h
    | some op =>
      rw [ho] at h
      refine go_mono h (fun u => ih _ _ _ u) (fun q s1 u hu => go_mono hu (fun _ e => e) (fun k s2 u2 h2 => ?_))
      split at h2
      · rename_i g; rw [if_pos g]; exact h2
      · rename_i g; rw [if_neg g]; exact ih _ _ _ _ h2
  | n + 1, .front, d, s, v, h => by
    have ih := rd_mono n
    rw [rd] at h ⊢
    split at h
    · rename_i g; rw [if_pos g]
      split at h
      · rename_i g2; rw [if_pos g2]; exact h
      · rename_i g2; rw [if_neg g2]; exact go_mono h (fun u => ih _ _ _ u) (fun _ _ _ e => e)
    · rename_i g; rw [if_neg g]; exact ih _ _ _ _ h
  | n + 1, .idx, d, s, v, h => by
    have ih := rd_mono n
    rw [rd] at h ⊢
    exact go_mono h (fun u => ih _ _ _ u) (fun p s u => ih _ _ _ u)
  | n + 1, .more p, d, s, v, h => by
    have ih := rd_mono n
    rw [rd] at h ⊢
    split at h
    · rename_i g; rw [if_pos g]
      exact go_mono h (fun u => ih _ _ _ u) (fun q s1 u hu => go_mono hu (fun _ e => e) (fun k s2 u2 h2 => ih _ _ _ _ h2))
    · rename_i g; rw [if_neg g]; exact h
  | n + 1, .inner a b, d, s, v, h => by
    have ih := rd_mono n
    rw [rd] at h ⊢
    split at h
    · rename_i g; rw [if_pos g]
      split at h
      · rename_i g2; rw [if_pos g2]; exact h
      · rename_i g2; rw [if_neg g2]; exact go_mono h (fun u => ih _ _ _ u) (fun _ _ _ e => e)
    · rename_i g; rw [if_neg g]; exact h
  | n + 1, .call nm a, d, s, v, h => by
    have ih := rd_mono n
    rw [rd] at h ⊢
    split at h
    · rename_i g; rw [if_pos g]
      split at h
      · rename_i g2; rw [if_pos g2]; exact h
      · rename_i g2; rw [if_neg g2]
        refine go_mono h (fun u hu => ?_) (fun _ _ _ e => e)
        split at hu
        · rename_i g3; rw [if_pos g3]; exact hu
        · rename_i g3; rw [if_neg g3]; exact ih _ _ _ _ hu
    · rename_i g; rw [if_neg g]; exact h
  | n + 1, .args acc, d, s, v, h => by
    have ih := rd_mono n
    rw [rd] at h ⊢
    split at h
    · rename_i g; rw [if_pos g]; exact h
    · rename_i g; rw [if_neg g]
      refine go_mono h (fun u => ih _ _ _ u) (fun p s1 u hu => ?_)
      split at hu
      · rename_i g3; rw [if_pos g3]; exact ih _ _ _ _ hu
      · rename_i g3; rw [if_neg g3]; exact hu
  | n + 1, .single, d, s, v, h => by
    have ih := rd_mono n
    rw [rd] at h ⊢
    split at h
    · rename_i g; rw [if_pos g]; exact ih _ _ _ _ h
    rename_i g0; rw [if_neg g0]
    split at h
    · rename_i g; rw [if_pos g]; exact h
    rename_i g1; rw [if_neg g1]
    split at h
    · rename_i g; rw [if_pos g]; exact h
    rename_i g2; rw [if_neg g2]
    split at h
    · rename_i g; rw [if_pos g]; exact h
    rename_i g3; rw [if_neg g3]
    split at h
    · rename_i g; rw [if_pos g]; exact go_mono h (fun u => ih _ _ _ u) (fun _ _ _ e => e)
    rename_i g4; rw [if_neg g4]
    split at h
    · rename_i g; rw [if_pos g]; exact go_mono h (fun u => ih _ _ _ u) (fun _ _ _ e => e)
    rename_i g5; rw [if_neg g5]
    split at h
    · rename_i g; rw [if_pos g]; exact h
    rename_i g6; rw [if_neg g6]
    split at h
    · rename_i g; rw [if_pos g]
      split at h
      · rename_i g8; rw [if_pos g8]; exact ih _ _ _ _ h
      · rename_i g8; rw [if_neg g8]; exact h
    · rename_i g; rw [if_neg g]; exact h
theorem rd_more {n m : Nat} {k : Md} {d : Nat} {s : PS} {v : Out} (h : rd n k d s = some v) (hm : n ≤ m) : rd m k d s = some v := by
  induction hm with
  | refl => exact h
  | step _ ih => exact rd_mono _ _ _ _ _ ih
/-- what is read -/
def Reads (k : Md) (d : Nat) (s : PS) (v : Out) : Prop := ∃ n, rd n k d s = some v
theorem Reads.one {k : Md} {d : Nat} {s : PS} {v u : Out} (h : Reads k d s v) (g : Reads k d s u) : v = u := by
  obtain ⟨n, hn⟩ := h
  obtain ⟨m, hm⟩ := g
  have h1 := rd_more hn (Nat.le_max_left n m)
  have h2 := rd_more hm (Nat.le_max_right n m)
  rw [h1] at h2
  exact Option.some.inj h2
end Go.Proofs.YtagacfcpepoaoaaGreatDoor
