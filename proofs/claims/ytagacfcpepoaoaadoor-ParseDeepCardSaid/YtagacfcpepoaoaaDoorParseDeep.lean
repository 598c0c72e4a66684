/- As many blocks, parameters and functions as there may be, and one more: by the document's words. No program. -/
import Derived.Test.YtagacfcpepoaoaaDoorMRules
import Derived.Test.YtagacfcpepoaoaaDoorParseSame
import Derived.Test.YtagacfcpepoaoaaDoorMJoin
namespace Go.Proofs.YtagacfcpepoaoaaDoor
set_option linter.unusedVariables false

/-- the tokens of a text, but for where they stand -/
def TC (l : List UInt8) (C : List Tk) : Prop := ∀ p, ∃ L, T l p = .ok L ∧ L.map tcore = C
theorem TC.nil : TC [] [⟨0, [], 0, 0⟩] := fun p => ⟨_, rfl, rfl⟩
theorem TC.tok {r : List UInt8} {C : List Tk} (n : Nat) (t : Tk) (hr : r ≠ []) (hz : skp false r = 0) (hn : ln r = n) (he : er r = 0) (ht : tcore (tk r 0) = t) (h : TC (r.drop n) C) : TC r (t :: C) := by
  intro p
  obtain ⟨L, h1, h2⟩ := h (p + n)
  refine ⟨tk r p :: L, ?_, ?_⟩
  · unfold T
    rw [hz, List.drop_zero, Nat.add_zero, S_then p hr he, hn, h1]
    rfl
  · rw [List.map_cons, h2, ← ht]
    rfl
theorem TC.blank {l : List UInt8} {C : List Tk} (h : TC l C) : TC (32 :: l) C := by
  intro p
  obtain ⟨L, h1, h2⟩ := h (p + 1)
  exact ⟨L, by rw [T_blank]; exact h1, h2⟩
/-- tokens without places -/
def kS (b : UInt8) : Tk := ⟨4, [b], 0, 0⟩
def kFn : Tk := ⟨3, wFn, 0, 0⟩
def kIf : Tk := ⟨3, wIf, 0, 0⟩
def kInt : Tk := ⟨3, wInt, 0, 0⟩
def kF : Tk := ⟨1, [102], 0, 0⟩
def kA : Tk := ⟨1, [97], 0, 0⟩
def kE : Tk := ⟨0, [], 0, 0⟩
theorem TC.one {b : UInt8} {r : List UInt8} {C : List Tk} (hb : b = 40 ∨ b = 41 ∨ b = 123 ∨ b = 125 ∨ b = 44) (h : TC r C) : TC (b :: r) (kS b :: C) := by
  rcases hb with rfl | rfl | rfl | rfl | rfl <;> exact TC.tok 1 _ (by simp) rfl rfl rfl rfl h
/-- 'fn f(' -/
def tFn : List UInt8 := [102, 110, 32, 102, 40]
theorem TC.fn {r : List UInt8} {C : List Tk} (h : TC r C) : TC (tFn ++ r) (kFn :: kF :: kS 40 :: C) := by
  refine TC.tok 2 kFn (by simp [tFn]) rfl rfl rfl rfl (TC.blank ?_)
  exact TC.tok 1 kF (by simp) rfl rfl rfl rfl (TC.one (.inl rfl) h)
/-- ') int {' -/
def tInt : List UInt8 := [41, 32, 105, 110, 116, 32, 123]
theorem TC.int {r : List UInt8} {C : List Tk} (h : TC r C) : TC (tInt ++ r) (kS 41 :: kInt :: kS 123 :: C) := by
  refine TC.one (b := 41) (.inr (.inl rfl)) (TC.blank ?_)
  exact TC.tok 3 kInt (by simp) rfl rfl rfl rfl (TC.blank (TC.one (.inr (.inr (.inl rfl))) h))
/-- 'if a {' -/
def tIf : List UInt8 := [105, 102, 32, 97, 32, 123]
theorem TC.if_ {r : List UInt8} {C : List Tk} (h : TC r C) : TC (tIf ++ r) (kIf :: kA :: kS 123 :: C) := by
  refine TC.tok 2 kIf (by simp [tIf]) rfl rfl rfl rfl (TC.blank ?_)
  exact TC.tok 1 kA (by simp) rfl rfl rfl rfl (TC.blank (TC.one (.inr (.inr (.inl rfl))) h))
/-- 'a int' ahead of a comma or a bracket -/
def tA : List UInt8 := [97, 32, 105, 110, 116]
theorem TC.par {b : UInt8} {r : List UInt8} {C : List Tk} (hb : b = 41 ∨ b = 44) (h : TC (b :: r) C) : TC (tA ++ b :: r) (kA :: kInt :: C) := by
  refine TC.tok 1 kA (by simp [tA]) rfl rfl rfl rfl (TC.blank ?_)
  rcases hb with rfl | rfl <;> exact TC.tok 3 kInt (by simp) rfl rfl rfl rfl h
/-- a list again and again -/
def reps (u : List UInt8) : Nat → List UInt8
  | 0 => []
  | n + 1 => reps u n ++ u
theorem reps_cons (u : List UInt8) : ∀ (n : Nat) (Z : List UInt8), reps u (n + 1) ++ Z = u ++ (reps u n ++ Z)
  | 0, Z => rfl
  | n + 1, Z => by
    show reps u (n + 1) ++ u ++ Z = _
    rw [List.append_assoc, reps_cons u n (u ++ Z)]
    show _ = u ++ (reps u n ++ u ++ Z)
    rw [List.append_assoc (reps u n)]
/-- blocks -/
def blkC : Nat → List Tk → List Tk
  | 0, Z => kS 123 :: kS 125 :: Z
  | j + 1, Z => kS 123 :: kIf :: kA :: blkC j (kS 125 :: Z)
theorem TC.ifs : ∀ (j : Nat) (r : List UInt8) (C : List Tk), TC r C → TC (123 :: (reps tIf j ++ (rep 125 (j + 1) ++ r))) (blkC j C)
  | 0, r, C, h => TC.one (.inr (.inr (.inl rfl))) (TC.one (.inr (.inr (.inr (.inl rfl)))) h)
  | j + 1, r, C, h => by
    rw [reps_cons]
    have e : rep 125 (j + 1 + 1) ++ r = rep 125 (j + 1) ++ (125 :: r) := rep_snoc 125 (j + 1) r
    rw [e]
    have ih := TC.ifs j (125 :: r) (kS 125 :: C) (TC.one (.inr (.inr (.inr (.inl rfl)))) h)
    refine TC.one (.inr (.inr (.inl rfl))) ?_
    show TC (105 :: 102 :: 32 :: 97 :: 32 :: 123 :: _) _
    refine TC.tok 2 kIf (by simp) rfl rfl rfl rfl (TC.blank ?_)
    exact TC.tok 1 kA (by simp) rfl rfl rfl rfl (TC.blank ih)
variable {d : Nat} {l : List Nd} {h : List Nat}
theorem exA_read (Z : List Tk) : Reads (.chain 0) d ⟨kA :: kS 123 :: Z, l, h⟩ (.ok ([(l.length : Int)], ⟨kS 123 :: Z, l ++ [En 4 [] 0 ⟨#[97]⟩ 0], h ++ [1]⟩)) := by
  have g := Reads.single_var (d := d) (s := ⟨kA :: kS 123 :: Z, l, h⟩) rfl rfl
  have e : lay (En 4 [] 0 ⟨(⟨kA :: kS 123 :: Z, l, h⟩ : PS).tok.text.toArray⟩ (⟨kA :: kS 123 :: Z, l, h⟩ : PS).tok.place) (⟨kA :: kS 123 :: Z, l, h⟩ : PS).next = .ok ([(l.length : Int)], ⟨kS 123 :: Z, l ++ [En 4 [] 0 ⟨#[97]⟩ 0], h ++ [1]⟩) := lay_ok rfl (by omega)
  rw [e] at g
  refine up0 (.front_none rfl rfl (.idx g (.more_end rfl))) ?_
  intro lv hlv
  have : lv = 0 ∨ lv = 1 ∨ lv = 2 ∨ lv = 3 ∨ lv = 4 := by omega
  rcases this with rfl | rfl | rfl | rfl | rfl <;> rfl
theorem snoc_last {h : List Nat} {l : List Nd} {t : Nat} (hl : h.length = l.length) : (h ++ [t]).getD l.length 0 = t := by rw [← hl]; exact getD_last
theorem snoc_lt {h : List Nat} {l : List Nd} {t : Nat} (hl : h.length = l.length) : l.length < (h ++ [t]).length := by rw [List.length_append, hl]; exact Nat.lt_succ_self _
theorem snoc_len {h : List Nat} {l : List Nd} {t : Nat} {x : Nd} (hl : h.length = l.length) : (h ++ [t]).length = (l ++ [x]).length := by rw [List.length_append, List.length_append, hl]; rfl
theorem blk_head (j : Nat) (Z : List Tk) : ∃ Y, blkC j Z = kS 123 :: Y := by cases j <;> exact ⟨_, rfl⟩
theorem blk_read : ∀ (j d : Nat) (Z : List Tk) (l : List Nd) (h : List Nat), d + j < 200 → 2 * j + 1 ≤ 200 → h.length = l.length →
    ∃ (k : Nat) (l' : List Nd) (h' : List Nat), PReads .block d ⟨blkC j Z, l, h⟩ (.ok ([(k : Int)], ⟨Z, l', h'⟩)) ∧ k < h'.length ∧ h'.getD k 0 = 2 * j + 1 ∧ h'.length = l'.length ∧ h.length ≤ h'.length ∧ ∀ i, i < h.length → h'.getD i 0 = h.getD i 0
  | 0, d, Z, l, h, hd, _, hl => by
    have e : lay (En 23 [] 0 ⟨#[]⟩ ((0 : Nat) : Int)) ⟨Z, l, h⟩ = .ok ([(l.length : Int)], ⟨Z, l ++ [En 23 [] 0 ⟨#[]⟩ ((0 : Nat) : Int)], h ++ [1]⟩) := lay_ok rfl (by omega)
    have g : PReads (.stmts [] 0) (d + 1) ⟨kS 125 :: Z, l, h⟩ (.ok ([(l.length : Int)], ⟨Z, l ++ [En 23 [] 0 ⟨#[]⟩ ((0 : Nat) : Int)], h ++ [1]⟩)) := by
      rw [← e]
      exact PReads.stmts_end (s := ⟨kS 125 :: Z, l, h⟩) rfl
    exact ⟨l.length, _, _, .block (.need (s := ⟨blkC 0 Z, l, h⟩) rfl (.ite_neg (by omega) g.ev)), by rw [List.length_append, hl]; exact Nat.lt_succ_self _, snoc_last hl, by rw [List.length_append, List.length_append, hl]; rfl, by rw [List.length_append]; omega, fun i hi => getD_left hi⟩
  | j + 1, d, Z, l, h, hd, hj, hl => by
    obtain ⟨k, l', h', ih, hk, ht, hll, hle, hpre⟩ := blk_read j (d + 1) (kS 125 :: Z) (l ++ [En 4 [] 0 ⟨#[97]⟩ 0]) (h ++ [1]) (by omega) (by omega) (by simp [hl])
    obtain ⟨Y, hY⟩ := blk_head j (kS 125 :: Z)
    have hx := exA_read (d := d + 1) (l := l) (h := h) Y
    rw [← hY] at hx
    have hlt : l.length < h'.length := by rw [List.length_append] at hle; have : h.length + 1 ≤ h'.length := hle; omega
    have h1 : h'.getD l.length 0 = 1 := by
      rw [hpre l.length (by rw [List.length_append]; show l.length < h.length + 1; omega)]
      exact snoc_last hl
    have hh : high h' [(l.length : Int), (k : Int)] = 2 * j + 2 := by rw [high2 hlt hk, ht, h1]; omega
    have e1 := lay_ok (x := En 15 [(l.length : Int), (k : Int)] 0 ⟨#[]⟩ ((0 : Nat) : Int)) (s := ⟨kS 125 :: Z, l', h'⟩) hh (by omega)
    have gs : PReads .stmt (d + 1) ⟨kIf :: kA :: blkC j (kS 125 :: Z), l, h⟩ (.ok ([(l'.length : Int)], ⟨kS 125 :: Z, l' ++ [En 15 [(l.length : Int), (k : Int)] 0 ⟨#[]⟩ ((0 : Nat) : Int)], h' ++ [2 * j + 2]⟩)) := by
      refine PReads.if_ rfl (Ev.ex hx (Ev.go ih.ev (Ev.ite_neg (by show ¬ false = true; decide) ?_)))
      rw [← e1]
      exact Ev.const
    have hh2 : high (h' ++ [2 * j + 2]) [(l'.length : Int)] = 2 * j + 3 := by
      rw [high1 (by rw [List.length_append, hll]; exact Nat.lt_succ_self _), snoc_last hll]
    have e2 := lay_ok (x := En 23 [(l'.length : Int)] 0 ⟨#[]⟩ ((0 : Nat) : Int)) (s := ⟨Z, l' ++ [En 15 [(l.length : Int), (k : Int)] 0 ⟨#[]⟩ ((0 : Nat) : Int)], h' ++ [2 * j + 2]⟩) hh2 (by omega)
    have gb : PReads (.stmts [] 0) (d + 1) ⟨kIf :: kA :: blkC j (kS 125 :: Z), l, h⟩ (lay (En 23 [(l'.length : Int)] 0 ⟨#[]⟩ ((0 : Nat) : Int)) ⟨Z, l' ++ [En 15 [(l.length : Int), (k : Int)] 0 ⟨#[]⟩ ((0 : Nat) : Int)], h' ++ [2 * j + 2]⟩) :=
      PReads.stmts_next rfl gs (PReads.stmts_end (s := ⟨kS 125 :: Z, _, _⟩) rfl)
    rw [e2] at gb
    have hlen : (h' ++ [2 * j + 2]).length = (l' ++ [En 15 [(l.length : Int), (k : Int)] 0 ⟨#[]⟩ ((0 : Nat) : Int)]).length := by rw [List.length_append, List.length_append, hll]; rfl
    refine ⟨(l' ++ [En 15 [(l.length : Int), (k : Int)] 0 ⟨#[]⟩ ((0 : Nat) : Int)]).length, _, _, .block (.need (s := ⟨blkC (j + 1) Z, l, h⟩) rfl (.ite_neg (by omega) gb.ev)), ?_, ?_, ?_, ?_, ?_⟩
    · exact snoc_lt hlen
    · exact snoc_last hlen
    · exact snoc_len hlen
    · show h.length ≤ (h' ++ [2 * j + 2] ++ [2 * j + 3]).length
      rw [List.length_append] at hle
      rw [List.length_append, List.length_append]
      omega
    · intro i hi
      show (h' ++ [2 * j + 2] ++ [2 * j + 3]).getD i 0 = _
      rw [List.length_append] at hle
      rw [getD_left (by rw [List.length_append]; omega), getD_left (by omega), hpre i (by rw [List.length_append]; omega), getD_left hi]
theorem Ev.of_lay {x : Nd} {s : PS} {o : Out} (e : lay x s = o) : Ev (fun _ => some (lay x s)) o := by rw [e]; exact Ev.const
theorem kInt_at {Z : List Tk} {l : List Nd} {h : List Nat} : kindAt (⟨kInt :: Z, l, h⟩ : PS).tok ≠ 0 := show (1 : Nat) ≠ 0 by decide
/-- a function of nested blocks -/
theorem fun_read (j : Nat) (Z : List Tk) (l : List Nd) (h : List Nat) (hj : j < 200) (hj2 : 2 * j + 2 ≤ 200) (hl : h.length = l.length) :
    ∃ (k : Nat) (l' : List Nd) (h' : List Nat), PReads .func 0 ⟨kF :: kS 40 :: kS 41 :: kInt :: blkC j Z, l, h⟩ (.ok ([(k : Int)], ⟨Z, l', h'⟩)) ∧ k < h'.length ∧ h'.getD k 0 = 2 * j + 2 ∧ h'.length = l'.length := by
  obtain ⟨k, l', h', g, hk, ht, hll, hle, hpre⟩ := blk_read j 0 Z l h (by omega) (by omega) hl
  have hh : high h' [(k : Int)] = 2 * j + 2 := by rw [high1 hk, ht]
  have e := lay_ok (x := En 25 ([] ++ [(k : Int)]) ((1 : Nat) : Int) ⟨#[102]⟩ ((0 : Nat) : Int)) (s := ⟨Z, l', h'⟩) (t := 2 * j + 2) (show high h' ([] ++ [(k : Int)]) = _ from hh) hj2
  exact ⟨l'.length, _, _, PReads.func (Ev.name rfl (Ev.need rfl (Ev.go (p := []) (s1 := ⟨kInt :: blkC j Z, l, h⟩) ⟨0, fun _ _ => rfl⟩ (Ev.kind kInt_at (Ev.go g.ev (Ev.of_lay e)))))), snoc_lt hll, snoc_last hll, snoc_len hll⟩
/-- heights that are small -/
theorem high_le {h : List Nat} {t : Nat} (ht : 1 ≤ t) (hh : ∀ x ∈ h, x + 1 ≤ t) (ks : List Int) : high h ks ≤ t := by
  unfold high
  have : ∀ (ks : List Int) (a : Nat), a ≤ t → ks.foldl (hstep h) a ≤ t := by
    intro ks
    induction ks with
    | nil => intro a ha; exact ha
    | cons k ks ih =>
      intro a ha
      refine ih _ ?_
      unfold hstep
      split
      · rename_i g
        have hk : k.toNat < h.length := by omega
        have hm : h.getD k.toNat 0 ∈ h := by rw [List.getD_eq_getElem?_getD, List.getElem?_eq_getElem hk]; exact List.getElem_mem _
        have := hh _ hm
        omega
      · exact ha
  exact this ks 1 ht
theorem lay_small {x : Nd} {s : PS} {t : Nat} (ht : 1 ≤ t) (h2 : t ≤ 200) (hh : ∀ y ∈ s.h, y + 1 ≤ t) : ∃ z, z ≤ t ∧ lay x s = .ok ([(s.l.length : Int)], ⟨s.r, s.l ++ [x], s.h ++ [z]⟩) :=
  ⟨_, high_le ht hh x.kids, lay_ok rfl (Nat.le_trans (high_le ht hh x.kids) h2)⟩
theorem small_snoc {h : List Nat} {z t : Nat} (hh : ∀ y ∈ h, y ≤ t) (hz : z ≤ t) : ∀ y ∈ h ++ [z], y ≤ t := by
  intro y hy
  rcases List.mem_append.1 hy with hy | hy
  · exact hh y hy
  · rw [List.mem_singleton.1 hy]; exact hz
/-- an empty block -/
theorem blk0_read (d : Nat) (Z : List Tk) (l : List Nd) (h : List Nat) (hd : d < 200) : PReads .block d ⟨kS 123 :: kS 125 :: Z, l, h⟩ (.ok ([(l.length : Int)], ⟨Z, l ++ [En 23 [] 0 ⟨#[]⟩ ((0 : Nat) : Int)], h ++ [1]⟩)) := by
  have e : lay (En 23 [] 0 ⟨#[]⟩ ((0 : Nat) : Int)) ⟨Z, l, h⟩ = .ok ([(l.length : Int)], ⟨Z, l ++ [En 23 [] 0 ⟨#[]⟩ ((0 : Nat) : Int)], h ++ [1]⟩) := lay_ok rfl (by omega)
  have g : PReads (.stmts [] 0) (d + 1) ⟨kS 125 :: Z, l, h⟩ (.ok ([(l.length : Int)], ⟨Z, l ++ [En 23 [] 0 ⟨#[]⟩ ((0 : Nat) : Int)], h ++ [1]⟩)) := by
    rw [← e]
    exact PReads.stmts_end (s := ⟨kS 125 :: Z, l, h⟩) rfl
  exact .block (.need (s := ⟨kS 123 :: kS 125 :: Z, l, h⟩) rfl (.ite_neg (by omega) g.ev))
/-- parameters -/
def parC : Nat → List Tk → List Tk
  | 0, Z => kA :: kInt :: Z
  | n + 1, Z => kA :: kInt :: kS 44 :: parC n Z
theorem par_lay (l : List Nd) (h : List Nat) (Z : List Tk) : lay (En 24 [] ((1 : Nat) : Int) ⟨#[97]⟩ ((0 : Nat) : Int)) ⟨Z, l, h⟩ = .ok ([(l.length : Int)], ⟨Z, l ++ [En 24 [] ((1 : Nat) : Int) ⟨#[97]⟩ ((0 : Nat) : Int)], h ++ [1]⟩) := lay_ok rfl (by omega)
theorem par_read : ∀ (n : Nat) (acc : List Int) (Z : List Tk) (l : List Nd) (h : List Nat), acc.length + n + 1 ≤ 8 → (∀ y ∈ h, y ≤ 2) →
    ∃ (ps : List Int) (l' : List Nd) (h' : List Nat), PReads (.params acc) 0 ⟨parC n (kS 41 :: Z), l, h⟩ (.ok (ps, ⟨Z, l', h'⟩)) ∧ ∀ y ∈ h', y ≤ 2
  | 0, acc, Z, l, h, ha, hh => ⟨_, _, _, PReads.params (Ev.name rfl (Ev.ite_neg (by omega) (Ev.kind kInt_at (Ev.go (Ev.of_lay (par_lay l h (kS 41 :: Z))) (Ev.ite_neg (show ¬ false = true by decide) (Ev.need rfl Ev.const)))))), small_snoc hh (by omega)⟩
  | n + 1, acc, Z, l, h, ha, hh => by
    obtain ⟨ps, l', h', ih, hh'⟩ := par_read n (acc ++ [(l.length : Int)]) Z (l ++ [En 24 [] ((1 : Nat) : Int) ⟨#[97]⟩ ((0 : Nat) : Int)]) (h ++ [1]) (by rw [List.length_append]; show acc.length + 1 + n + 1 ≤ 8; omega) (small_snoc hh (by omega))
    exact ⟨ps, l', h', PReads.params (Ev.name rfl (Ev.ite_neg (by omega) (Ev.kind kInt_at (Ev.go (Ev.of_lay (par_lay l h (kS 44 :: parC n (kS 41 :: Z)))) (Ev.ite_pos rfl ih.ev))))), hh'⟩
theorem par_no : ∀ (n : Nat) (acc : List Int) (Z : List Tk) (l : List Nd) (h : List Nat), 8 < acc.length + n + 1 → acc.length ≤ 8 → ∃ q, PReads (.params acc) 0 ⟨parC n (kS 41 :: Z), l, h⟩ (.error (3, q))
  | 0, acc, Z, l, h, ha, h8 => ⟨0, PReads.params (Ev.name rfl (Ev.ite_pos (by omega) Ev.const))⟩
  | n + 1, acc, Z, l, h, ha, h8 => by
    by_cases g : 8 ≤ acc.length
    · exact ⟨0, PReads.params (Ev.name rfl (Ev.ite_pos g Ev.const))⟩
    · obtain ⟨q, ih⟩ := par_no n (acc ++ [(l.length : Int)]) Z (l ++ [En 24 [] ((1 : Nat) : Int) ⟨#[97]⟩ ((0 : Nat) : Int)]) (h ++ [1]) (by rw [List.length_append]; show 8 < acc.length + 1 + n + 1; omega) (by rw [List.length_append]; show acc.length + 1 ≤ 8; omega)
      exact ⟨q, PReads.params (Ev.name rfl (Ev.ite_neg (by omega) (Ev.kind kInt_at (Ev.go (Ev.of_lay (par_lay l h (kS 44 :: parC n (kS 41 :: Z)))) (Ev.ite_pos rfl ih.ev)))))⟩
/-- functions -/
def funC : Nat → List Tk
  | 0 => [kE]
  | n + 1 => kFn :: kF :: kS 40 :: kS 41 :: kInt :: kS 123 :: kS 125 :: funC n
theorem fun0_read (Z : List Tk) (l : List Nd) (h : List Nat) (hl : h.length = l.length) :
    ∃ (l' : List Nd), l'.length = l.length + 2 ∧ PReads .func 0 ⟨kF :: kS 40 :: kS 41 :: kInt :: kS 123 :: kS 125 :: Z, l, h⟩ (.ok ([((l.length + 1 : Nat) : Int)], ⟨Z, l', h ++ [1] ++ [2]⟩)) := by
  have hb := blk0_read 0 Z l h (by omega)
  have hh : high (h ++ [1]) [(l.length : Int)] = 2 := by rw [high1 (snoc_lt hl), snoc_last hl]
  have e := lay_ok (x := En 25 ([] ++ [(l.length : Int)]) ((1 : Nat) : Int) ⟨#[102]⟩ ((0 : Nat) : Int)) (s := ⟨Z, l ++ [En 23 [] 0 ⟨#[]⟩ ((0 : Nat) : Int)], h ++ [1]⟩) (t := 2) (show high (h ++ [1]) ([] ++ [(l.length : Int)]) = 2 from hh) (by omega)
  rw [show (⟨Z, l ++ [En 23 [] 0 ⟨#[]⟩ ((0 : Nat) : Int)], h ++ [1]⟩ : PS).l.length = l.length + 1 by simp] at e
  exact ⟨_, by simp, PReads.func (Ev.name rfl (Ev.need rfl (Ev.go (p := []) (s1 := ⟨kInt :: kS 123 :: kS 125 :: Z, l, h⟩) ⟨0, fun _ _ => rfl⟩ (Ev.kind kInt_at (Ev.go hb.ev (Ev.of_lay e))))))⟩
theorem funs_read : ∀ (n : Nat) (acc : List Int) (l : List Nd) (h : List Nat), acc.length + n ≤ 200 → h.length = l.length → (∀ y ∈ h, y ≤ 2) → ∃ (ps : List Int) (l' : List Nd) (h' : List Nat), PReads (.prog acc) 0 ⟨funC n, l, h⟩ (.ok (ps, ⟨[kE], l', h'⟩))
  | 0, acc, l, h, ha, hl, hh => by
    obtain ⟨z, _, e⟩ := lay_small (x := En 26 acc 0 ⟨#[]⟩ 0) (s := ⟨[kE], l, h⟩) (t := 3) (by omega) (by omega) (fun y hy => by have := hh y hy; omega)
    have g := PReads.prog_end (d := 0) (s := ⟨[kE], l, h⟩) (acc := acc) rfl
    rw [e] at g
    exact ⟨_, _, _, g⟩
  | n + 1, acc, l, h, ha, hl, hh => by
    obtain ⟨l', hl', g⟩ := fun0_read (funC n) l h hl
    obtain ⟨ps, l2, h2, ih⟩ := funs_read n (acc ++ [((l.length + 1 : Nat) : Int)]) l' (h ++ [1] ++ [2]) (by rw [List.length_append]; show acc.length + 1 + n ≤ 200; omega) (by simp [hl, hl']) (small_snoc (small_snoc hh (by omega)) (by omega))
    exact ⟨ps, l2, h2, PReads.prog_next (s := ⟨funC (n + 1), l, h⟩) rfl (by omega) g ih⟩
theorem funs_no : ∀ (n : Nat) (acc : List Int) (l : List Nd) (h : List Nat), 200 < acc.length + n → acc.length ≤ 200 → h.length = l.length → ∃ q, PReads (.prog acc) 0 ⟨funC n, l, h⟩ (.error (3, q))
  | 0, acc, l, h, ha, h2, hl => by omega
  | n + 1, acc, l, h, ha, h2, hl => by
    by_cases g2 : 200 ≤ acc.length
    · exact ⟨0, PReads.prog_long (s := ⟨funC (n + 1), l, h⟩) rfl g2⟩
    · obtain ⟨l', hl', g⟩ := fun0_read (funC n) l h hl
      obtain ⟨q, ih⟩ := funs_no n (acc ++ [((l.length + 1 : Nat) : Int)]) l' (h ++ [1] ++ [2]) (by rw [List.length_append]; show 200 < acc.length + 1 + n; omega) (by rw [List.length_append]; show acc.length + 1 ≤ 200; omega) (by simp [hl, hl'])
      exact ⟨q, PReads.prog_next (s := ⟨funC (n + 1), l, h⟩) rfl (by omega) g ih⟩
/-- the three kinds of text -/
def parT : Nat → List UInt8
  | 0 => tA
  | n + 1 => tA ++ 44 :: parT n
theorem parT_last : ∀ n, parT (n + 1) = parT n ++ 44 :: tA
  | 0 => rfl
  | n + 1 => by
    show tA ++ 44 :: parT (n + 1) = tA ++ 44 :: parT n ++ 44 :: tA
    rw [parT_last n, List.append_assoc]
    rfl
def tFun : List UInt8 := [102, 110, 32, 102, 40, 41, 32, 105, 110, 116, 32, 123, 125]
def ptext (K n : Nat) : List UInt8 := match K with
  | 0 => tFn ++ (tInt ++ (reps tIf n ++ rep 125 (n + 1)))
  | 1 => tFn ++ (parT (n - 1) ++ (tInt ++ [125]))
  | _ => reps tFun n
def pcore (K n : Nat) : List Tk := match K with
  | 0 => kFn :: kF :: kS 40 :: kS 41 :: kInt :: blkC n [kE]
  | 1 => kFn :: kF :: kS 40 :: parC (n - 1) (kS 41 :: kInt :: kS 123 :: kS 125 :: [kE])
  | _ => funC n
theorem TC.pars {r : List UInt8} {C : List Tk} (h : TC (41 :: r) C) : ∀ n, TC (parT n ++ 41 :: r) (parC n C)
  | 0 => TC.par (.inl rfl) h
  | n + 1 => by
    show TC (tA ++ 44 :: parT n ++ 41 :: r) _
    rw [List.append_assoc]
    exact TC.par (.inr rfl) (TC.one (.inr (.inr (.inr (.inr rfl)))) (TC.pars h n))
theorem TC.funs : ∀ n, TC (reps tFun n ++ []) (funC n)
  | 0 => TC.nil
  | n + 1 => by
    rw [reps_cons]
    exact TC.fn (TC.int (TC.one (.inr (.inr (.inr (.inl rfl)))) (TC.funs n)))
theorem ptext_TC (K n : Nat) : TC (ptext K n) (pcore K n) := by
  match K with
  | 0 =>
    refine TC.fn ?_
    show TC (41 :: 32 :: 105 :: 110 :: 116 :: 32 :: 123 :: (reps tIf n ++ rep 125 (n + 1))) _
    refine TC.one (b := 41) (.inr (.inl rfl)) (TC.blank ?_)
    refine TC.tok 3 kInt (by simp) rfl rfl rfl rfl (TC.blank ?_)
    have := TC.ifs n [] [kE] TC.nil
    rw [List.append_nil] at this
    exact this
  | 1 =>
    refine TC.fn ?_
    exact TC.pars (TC.int (r := [125]) (TC.one (.inr (.inr (.inr (.inl rfl)))) TC.nil)) (n - 1)
  | k + 2 =>
    have := TC.funs n
    rw [List.append_nil] at this
    exact this
theorem ptext_ok (K n : Nat) (h1 : 1 ≤ n) (hn : n ≤ (if K = 0 then 98 else if K = 1 then 8 else 200)) : ∃ ps s', PReads (.prog []) 0 ⟨pcore K n, [], []⟩ (.ok (ps, s')) := by
  match K, hn with
  | 0, hn =>
    have hn' : n ≤ 98 := by simpa using hn
    obtain ⟨k, l', h', g, hk, ht, hll⟩ := fun_read n [kE] [] [] (by omega) (by omega) rfl
    have hh : high h' [(k : Int)] = 2 * n + 3 := by rw [high1 hk, ht]
    have e := lay_ok (x := En 26 ([] ++ [(k : Int)]) 0 ⟨#[]⟩ 0) (s := ⟨[kE], l', h'⟩) (t := 2 * n + 3) (show high h' ([] ++ [(k : Int)]) = _ from hh) (by omega)
    have r := PReads.prog_end (d := 0) (s := ⟨[kE], l', h'⟩) (acc := [] ++ [(k : Int)]) rfl
    rw [e] at r
    exact ⟨_, _, PReads.prog_next (s := ⟨pcore 0 n, [], []⟩) rfl (by show 0 < 200; omega) g r⟩
  | 1, hn =>
    have hn' : n ≤ 8 := by simpa using hn
    obtain ⟨m, rfl⟩ : ∃ m, n = m + 1 := ⟨n - 1, by omega⟩
    obtain ⟨ps, l', h', g, hh⟩ := par_read m [] (kInt :: kS 123 :: kS 125 :: [kE]) [] [] (by show 0 + m + 1 ≤ 8; omega) (fun y hy => by cases hy)
    have hb := blk0_read 0 [kE] l' h' (by omega)
    obtain ⟨z, hz, e⟩ := lay_small (x := En 25 (ps ++ [(l'.length : Int)]) ((1 : Nat) : Int) ⟨#[102]⟩ ((0 : Nat) : Int)) (s := ⟨[kE], l' ++ [En 23 [] 0 ⟨#[]⟩ ((0 : Nat) : Int)], h' ++ [1]⟩) (t := 3) (by omega) (by omega) (fun y hy => by have := small_snoc hh (by omega : 1 ≤ 2) y hy; omega)
    have gf : PReads .func 0 ⟨kF :: kS 40 :: parC m (kS 41 :: kInt :: kS 123 :: kS 125 :: [kE]), [], []⟩ (.ok ([((l' ++ [En 23 [] 0 ⟨#[]⟩ ((0 : Nat) : Int)]).length : Int)], ⟨[kE], l' ++ [En 23 [] 0 ⟨#[]⟩ ((0 : Nat) : Int)] ++ [En 25 (ps ++ [(l'.length : Int)]) ((1 : Nat) : Int) ⟨#[102]⟩ ((0 : Nat) : Int)], h' ++ [1] ++ [z]⟩)) :=
      PReads.func (Ev.name rfl (Ev.need rfl (Ev.go (Ev.ite_neg (by cases m <;> exact (show ¬ false = true by decide)) g.ev) (Ev.kind kInt_at (Ev.go hb.ev (Ev.of_lay e))))))
    obtain ⟨z2, _, e2⟩ := lay_small (x := En 26 ([] ++ [((l' ++ [En 23 [] 0 ⟨#[]⟩ ((0 : Nat) : Int)]).length : Int)]) 0 ⟨#[]⟩ 0) (s := ⟨[kE], l' ++ [En 23 [] 0 ⟨#[]⟩ ((0 : Nat) : Int)] ++ [En 25 (ps ++ [(l'.length : Int)]) ((1 : Nat) : Int) ⟨#[102]⟩ ((0 : Nat) : Int)], h' ++ [1] ++ [z]⟩) (t := 4) (by omega) (by omega) (fun y hy => by have := small_snoc (small_snoc (fun y hy => Nat.le_trans (hh y hy) (by omega : 2 ≤ 3)) (by omega : 1 ≤ 3)) hz y hy; omega)
    have r := PReads.prog_end (d := 0) (s := ⟨[kE], l' ++ [En 23 [] 0 ⟨#[]⟩ ((0 : Nat) : Int)] ++ [En 25 (ps ++ [(l'.length : Int)]) ((1 : Nat) : Int) ⟨#[102]⟩ ((0 : Nat) : Int)], h' ++ [1] ++ [z]⟩) (acc := [] ++ [((l' ++ [En 23 [] 0 ⟨#[]⟩ ((0 : Nat) : Int)]).length : Int)]) rfl
    rw [e2] at r
    exact ⟨_, _, PReads.prog_next (s := ⟨pcore 1 (m + 1), [], []⟩) rfl (by show 0 < 200; omega) gf r⟩
  | k + 2, hn =>
    have hn' : n ≤ 200 := by simpa using hn
    obtain ⟨ps, l', h', g⟩ := funs_read n [] [] [] (by show 0 + n ≤ 200; omega) rfl (fun y hy => by cases hy)
    exact ⟨_, _, g⟩
theorem ptext_no (K n : Nat) (hn : (if K = 0 then 98 else if K = 1 then 8 else 200) < n) (h0 : K = 0 → n = 99) : ∃ q, PReads (.prog []) 0 ⟨pcore K n, [], []⟩ (.error ((if K = 0 then 4 else 3), q)) := by
  match K, hn, h0 with
  | 0, hn, h0 =>
    have h99 := h0 rfl
    subst h99
    obtain ⟨k, l', h', g, hk, ht, hll⟩ := fun_read 99 [kE] [] [] (by omega) (by omega) rfl
    have hh : high h' [(k : Int)] = 201 := by rw [high1 hk, ht]
    have e := lay_no (x := En 26 ([] ++ [(k : Int)]) 0 ⟨#[]⟩ 0) (s := ⟨[kE], l', h'⟩) (t := 201) (show high h' ([] ++ [(k : Int)]) = _ from hh) (by omega)
    have r := PReads.prog_end (d := 0) (s := ⟨[kE], l', h'⟩) (acc := [] ++ [(k : Int)]) rfl
    rw [e] at r
    exact ⟨_, PReads.prog_next (s := ⟨pcore 0 99, [], []⟩) rfl (by show 0 < 200; omega) g r⟩
  | 1, hn, _ =>
    have hn' : 8 < n := by simpa using hn
    obtain ⟨m, rfl⟩ : ∃ m, n = m + 1 := ⟨n - 1, by omega⟩
    obtain ⟨q, g⟩ := par_no m [] (kInt :: kS 123 :: kS 125 :: [kE]) [] [] (by show 8 < 0 + m + 1; omega) (by show 0 ≤ 8; omega)
    have gf : PReads .func 0 ⟨kF :: kS 40 :: parC m (kS 41 :: kInt :: kS 123 :: kS 125 :: [kE]), [], []⟩ (.error (3, q)) :=
      PReads.func (Ev.name rfl (Ev.need rfl (Ev.go_err (Ev.ite_neg (by cases m <;> exact (show ¬ false = true by decide)) g.ev))))
    exact ⟨q, PReads.prog_err (s := ⟨pcore 1 (m + 1), [], []⟩) rfl (by show 0 < 200; omega) gf⟩
  | k + 2, hn, _ =>
    have hn' : 200 < n := by simpa using hn
    obtain ⟨q, g⟩ := funs_no n [] [] [] (by show 200 < 0 + n; omega) (by show 0 ≤ 200; omega) rfl
    exact ⟨q, g⟩
/-- .. of the text's own tokens -/
theorem core_core (C : List Tk) (h : ∃ L : List Tk, L.map tcore = C) : C.map tcore = C := by
  obtain ⟨L, rfl⟩ := h
  rw [List.map_map]
  rfl
theorem ptext_yes (K n : Nat) (h1 : 1 ≤ n) (hn : n ≤ (if K = 0 then 98 else if K = 1 then 8 else 200)) : ∃ L ps s', T (ptext K n) 0 = .ok L ∧ PReads (.prog []) 0 ⟨L, [], []⟩ (.ok (ps, s')) := by
  obtain ⟨L, h2, h3⟩ := ptext_TC K n 0
  obtain ⟨ps, s', g⟩ := ptext_ok K n h1 hn
  obtain ⟨v', g', hv⟩ := preads_alk (L' := L) (by rw [core_core _ ⟨L, h3⟩, h3]) g
  cases v' with
  | error f => exact hv.elim
  | ok y => obtain ⟨l, t⟩ := y; exact ⟨L, l, t, h2, g'⟩
theorem ptext_bad (K n : Nat) (hn : (if K = 0 then 98 else if K = 1 then 8 else 200) < n) (h0 : K = 0 → n = 99) : ∃ L q, T (ptext K n) 0 = .ok L ∧ PReads (.prog []) 0 ⟨L, [], []⟩ (.error ((if K = 0 then 4 else 3), q)) := by
  obtain ⟨L, h2, h3⟩ := ptext_TC K n 0
  obtain ⟨q, g⟩ := ptext_no K n hn h0
  obtain ⟨v', g', hv⟩ := preads_alk (L' := L) (by rw [core_core _ ⟨L, h3⟩, h3]) g
  cases v' with
  | ok y => exact hv.elim
  | error f =>
    obtain ⟨x, q'⟩ := f
    have hv' : (if K = 0 then 4 else 3) = x := hv
    subst hv'
    exact ⟨L, q', h2, g'⟩
end Go.Proofs.YtagacfcpepoaoaaDoor
