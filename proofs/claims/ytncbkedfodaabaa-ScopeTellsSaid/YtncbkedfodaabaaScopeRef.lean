/- The reference: what is seen, as a list; New and Find. -/
import Derived.Test.YtncbkedfodaabaaScopeClone
import Derived.Lib.Walk
namespace Go.Proofs.Ytncbkedfodaabaa
open Go.RowKit
set_option linter.unusedVariables false

/-- the cells of one that is seen -/
def vcv (v : Va) : List Value := [.string v.nm, .int .i64 (v.bk : Int), .int .i64 (v.sl : Int), .int .i64 (v.kd : Int)]
def vcs (l : List Va) : List Value := l.flatMap vcv
theorem vcs_length : ∀ l : List Va, (vcs l).length = l.length * 4
  | [] => rfl
  | d :: b => by
    have ih := vcs_length b
    unfold vcs at ih ⊢
    rw [List.flatMap_cons, List.length_append, ih, List.length_cons]
    show 4 + _ = _
    omega
theorem vcs_get : ∀ (b : List Va) (j k : Nat) (d : Va), b[j]? = some d → k < 4 → (vcs b)[j * 4 + k]? = (vcv d)[k]?
  | [], j, k, d, h, _ => by simp at h
  | x :: b, 0, k, d, h, hk => by
    simp at h
    subst h
    unfold vcs
    rw [List.flatMap_cons, List.getElem?_append_left (by show _ < 4; omega), Nat.zero_mul, Nat.zero_add]
  | x :: b, j + 1, k, d, h, hk => by
    have ih := vcs_get b j k d (by simpa using h) hk
    unfold vcs at ih ⊢
    rw [List.flatMap_cons, List.getElem?_append_right (by show 4 ≤ _; omega)]
    show (List.flatMap vcv b)[(j + 1) * 4 + k - 4]? = _
    rw [show (j + 1) * 4 + k - 4 = j * 4 + k by omega]
    exact ih
theorem vcs_app (a b : List Va) : vcs (a ++ b) = vcs a ++ vcs b := by unfold vcs; rw [List.flatMap_append]
theorem vcs_one (l : List Va) : ∀ u ∈ vcs l, u.oneCell' = true := by
  intro u hu
  obtain ⟨v, _, h⟩ := List.mem_flatMap.1 hu
  simp only [vcv, List.mem_cons, List.not_mem_nil, or_false] at h
  rcases h with rfl | rfl | rfl | rfl <;> rfl
/-- cells that are there to be read, in a block of which N tells -/
def RdC (w : World) (N : Nat → Prop) (a : Option Addr) (xs : List Value) : Prop := 0 < xs.length → ∃ g, a = some ⟨g, 0, none⟩ ∧ g < w.heap.size ∧ N g ∧ ∀ j u, xs[j]? = some u → w.cell? ⟨g, j, none⟩ = some u
theorem RdC.mono {w : World} {N N' : Nat → Prop} {a : Option Addr} {xs : List Value} (h : RdC w N a xs) (hN : ∀ g, g < w.heap.size → N g → N' g) : RdC w N' a xs := fun hp => by
  obtain ⟨g, h1, h2, h3, h4⟩ := h hp
  exact ⟨g, h1, h2, hN g h2 h3, h4⟩
theorem RdC.below {w w' : World} {N : Nat → Prop} {a : Option Addr} {xs : List Value} (h : RdC w N a xs) (hb : Below w.heap.size w w') : RdC w' N a xs := fun hp => by
  obtain ⟨g, h1, h2, h3, h4⟩ := h hp
  exact ⟨g, h1, Nat.lt_of_lt_of_le h2 hb.size, h3, fun j u hj => (hb.cell (p := ⟨g, j, none⟩) h2).trans (h4 j u hj)⟩
theorem RdC.same {w w' : World} {N : Nat → Prop} {a : Option Addr} {xs : List Value} (h : RdC w N a xs) (hb : ∀ g, g < w.heap.size → N g → w'.heap[g]? = w.heap[g]?) (hs : w.heap.size ≤ w'.heap.size) : RdC w' N a xs := fun hp => by
  obtain ⟨g, h1, h2, h3, h4⟩ := h hp
  exact ⟨g, h1, Nat.lt_of_lt_of_le h2 hs, h3, fun j u hj => (World.cell?_of_block (a := ⟨g, j, none⟩) (hb g h2 h3)).trans (h4 j u hj)⟩
theorem RdC.nil (w : World) (N : Nat → Prop) (a : Option Addr) : RdC w N a [] := fun h => by simp at h
theorem RdC.own {w : World} {N : Nat → Prop} {B e sz n : Nat} {v : Value} {xs : List Value} {a : Option Addr} {m c : Nat} (h : w.ownsRow B e sz v n xs) (hv : v = .slice a m c) (hN : ∀ k, v.ownBlock = some k → N k) : RdC w N a xs := fun hp => by
  subst hv
  rcases h.2 with ⟨h1, h2⟩ | ⟨g, cap, cur, h1, _⟩
  · have := h.1
    rw [h2, Nat.zero_mul] at this
    omega
  · injection h1 with h1
    subst h1
    refine ⟨g, rfl, (h.lt g rfl).2, hN g rfl, fun j u hj => ?_⟩
    have := h.cells (g := g) rfl j u hj
    rwa [add_zero_at] at this
theorem own_none {w : World} {B e sz n m c : Nat} {xs : List Value} {a : Option Addr} (h : w.ownsRow B e sz (.slice a m c) n xs) : a = none → c = 0 := by
  intro ha
  subst ha
  rcases h.2 with ⟨h1, _⟩ | ⟨g, cap, cur, h1, _⟩
  · injection h1
  · cases h1
/-- the value that the reference has -/
def xval (aL : Option Addr) (cL : Nat) (aK : Option Addr) (cK : Nat) (R : List (List Dc)) (ks : List Nat) : Value :=
  .agg #[.slice aL (flat R).length cL, .slice aK ks.length cK, .int .i64 (R.length : Int)]
/-- what lies where -/
structure IsX (w : World) (N : Nat → Prop) (aL : Option Addr) (cL : Nat) (aK : Option Addr) (cK : Nat) (R : List (List Dc)) (ks : List Nat) : Prop where
  vars : RdC w N aL (vcs (flat R))
  kinds : RdC w N aK (kcs ks)
  capL : (flat R).length ≤ cL
  capK : ks.length ≤ cK
  nilL : aL = none → cL = 0
  nilK : aK = none → cK = 0
theorem IsX.below {w w' : World} {N : Nat → Prop} {aL aK : Option Addr} {cL cK : Nat} {R : List (List Dc)} {ks : List Nat} (h : IsX w N aL cL aK cK R ks) (hb : Below w.heap.size w w') : IsX w' N aL cL aK cK R ks :=
  ⟨h.vars.below hb, h.kinds.below hb, h.capL, h.capK, h.nilL, h.nilK⟩
theorem IsX.mono {w : World} {N N' : Nat → Prop} {aL aK : Option Addr} {cL cK : Nat} {R : List (List Dc)} {ks : List Nat} (h : IsX w N aL cL aK cK R ks) (hN : ∀ g, g < w.heap.size → N g → N' g) : IsX w N' aL cL aK cK R ks :=
  ⟨h.vars.mono hN, h.kinds.mono hN, h.capL, h.capK, h.nilL, h.nilK⟩
theorem IsX.same {w w' : World} {N : Nat → Prop} {aL aK : Option Addr} {cL cK : Nat} {R : List (List Dc)} {ks : List Nat} (h : IsX w N aL cL aK cK R ks) (hb : ∀ g, g < w.heap.size → N g → w'.heap[g]? = w.heap[g]?) (hs : w.heap.size ≤ w'.heap.size) : IsX w' N aL cL aK cK R ks :=
  ⟨h.vars.same hb hs, h.kinds.same hb hs, h.capL, h.capK, h.nilL, h.nilK⟩
/-- the cells of one of them -/
theorem RdC.va {w : World} {N : Nat → Prop} {a : Option Addr} {l : List Va} (h : RdC w N a (vcs l)) {j : Nat} (hj : j < l.length) : ∃ g, a = some ⟨g, 0, none⟩ ∧ g < w.heap.size ∧
    w.cell? ⟨g, j * 4, none⟩ = some (.string (l.getD j default).nm) ∧ w.cell? ⟨g, j * 4 + 1, none⟩ = some (.int .i64 ((l.getD j default).bk : Int)) ∧ w.cell? ⟨g, j * 4 + 2, none⟩ = some (.int .i64 ((l.getD j default).sl : Int)) ∧ w.cell? ⟨g, j * 4 + 3, none⟩ = some (.int .i64 ((l.getD j default).kd : Int)) := by
  obtain ⟨g, h1, h2, _, h4⟩ := h (by rw [vcs_length]; omega)
  have hd : l[j]? = some (l.getD j default) := by rw [List.getD_eq_getElem?_getD, List.getElem?_eq_getElem hj]; rfl
  have hc : ∀ k u, k < 4 → (vcv (l.getD j default))[k]? = some u → w.cell? ⟨g, j * 4 + k, none⟩ = some u := fun k u hk hu => h4 (j * 4 + k) u (by rw [vcs_get l j k _ hd hk]; exact hu)
  exact ⟨g, h1, h2, hc 0 _ (by omega) rfl, hc 1 _ (by omega) rfl, hc 2 _ (by omega) rfl, hc 3 _ (by omega) rfl⟩
theorem name_eq (a b : ByteArray) : (a.toList == b.toList) = decide (a = b) := by
  rw [ByteArray.toList_eq, ByteArray.toList_eq]
  by_cases h : a = b
  · simp [h]
  · have : ¬ a.data = b.data := fun e => h (ByteArray.ext e)
    simp [h, this]
theorem rnew_any (w : World) : Calls Try.prog 8 #[] w fun e w' => e = .returned (xval none 0 none 0 [[]] []) ∧ Below w.heap.size w w' := by
  go_enter Try.func8, Try.ntmps8
  go_wp2
  obtain ⟨w1, hw1⟩ : ∃ w1, w1 = w.alloc (.cells #[.slice none 0 0, .slice none 0 0, .int .i64 1] 29) := ⟨_, rfl⟩
  have hb : Below w.heap.size w w1 := by rw [hw1]; exact (Below.refl _ _).alloc (Nat.le_refl _) _
  have hh : Held w1 w.heap.size 29 #[.slice none 0 0, .slice none 0 0, .int .i64 1] := by rw [hw1]; exact Held.new _ _ _
  rw [← hw1]
  have x0 : w1.cell? ⟨w.heap.size, 0, none⟩ = some (.slice none 0 0) := hh.at_ rfl
  have x1 : w1.cell? ⟨w.heap.size, 1, none⟩ = some (.slice none 0 0) := hh.at_ rfl
  have x2 : w1.cell? ⟨w.heap.size, 2, none⟩ = some (.int .i64 1) := hh.at_ rfl
  exact bodyPost_ret (v := xval none 0 none 0 [[]] []) (by simp [results, Try.results8, go_sem, x0, x1, x2, xval, flat]) rfl ⟨rfl, hb⟩
set_option maxRecDepth 100000 in
theorem rfind_any {w : World} {N : Nat → Prop} {aL aK : Option Addr} {cL cK : Nat} {R : List (List Dc)} {ks : List Nat} (H : IsX w N aL cL aK cK R ks) (s : ByteArray) (hl : (flat R).length ≤ 1000) :
    Calls Try.prog 14 #[xval aL cL aK cK R ks, .string s] w fun e w' => e = .returned (.int .i64 (ix (flat R) s (flat R).length)) ∧ Below w.heap.size w w' := by
  obtain ⟨l, hfl⟩ : ∃ l, l = flat R := ⟨_, rfl⟩
  have HV := H.vars
  unfold xval
  rw [← hfl] at HV hl ⊢
  obtain ⟨n, hn⟩ : ∃ n, n = l.length := ⟨_, rfl⟩
  rw [← hn] at hl ⊢
  obtain ⟨dd, hdd⟩ : ∃ d : Int, d = (R.length : Int) := ⟨_, rfl⟩
  obtain ⟨kk, hkk⟩ : ∃ k, k = ks.length := ⟨_, rfl⟩
  rw [← hdd, ← hkk]
  have HVH := hidden HV
  have HN := hidden hn
  clear HV hn H hfl hdd hkk
  go_enter Try.func14, Try.ntmps14
  go_wp2_with fail
  obtain ⟨w1, hw1⟩ : ∃ w1, w1 = w.alloc (.cells #[.slice aL n cL, .slice aK kk cK, .int .i64 dd] 29) := ⟨_, rfl⟩
  have HB := hidden (show Below w.heap.size w w1 by rw [hw1]; exact (Below.refl _ _).alloc (Nat.le_refl _) _)
  have HV1 := hidden (show RdC w1 N aL (vcs l) by rw [hw1]; exact HVH.out.below ((Below.refl _ _).alloc (Nat.le_refl _) _))
  have hh : Held w1 w.heap.size 29 #[.slice aL n cL, .slice aK kk cK, .int .i64 dd] := by rw [hw1]; exact Held.new _ _ _
  rw [← hw1]
  have x0 : w1.cell? ⟨w.heap.size, 0, none⟩ = some (.slice aL n cL) := hh.at_ rfl
  clear hw1 hh
  go_loopw [5, 6] (fun at_ i wr => ∃ k : Nat, k ≤ n ∧ i = .int .i64 (k : Int) ∧ at_ = .int .i64 (ix l s k) ∧ wr = w1) (fun _ i _ => n - (intOf i).toNat)
  case atStart => exact ⟨0, by omega, rfl, rfl, rfl⟩
  case round =>
    obtain ⟨k, hk, rfl, rfl, rfl⟩ := hrel
    by_cases hkn : k < n
    · have hki : (k : Int) < (n : Int) := by omega
      obtain ⟨g, rfl, _, y0, _⟩ := HV1.out.va (show k < l.length by have := HN.out; omega)
      obtain ⟨v, hv⟩ : ∃ v, v = l.getD k default := ⟨_, rfl⟩
      rw [← hv] at y0
      have HVV := hidden hv
      clear hv
      by_cases hvs : v.nm = s
      · have hq : (v.nm.toList == s.toList) = true := by rw [name_eq]; simp [hvs]
        have HQ := hidden hvs
        clear hvs
        go_wp2_with fail
        go_roundw
        case rel => exact ⟨k + 1, by omega, by go_num, by rw [ix, ← HVV.out, if_pos HQ.out], trivial⟩
        case measure => simp [intOf]; omega
      · have hq : (v.nm.toList == s.toList) = false := by rw [name_eq]; simp [hvs]
        have HQ := hidden hvs
        clear hvs
        go_wp2_with fail
        go_roundw
        case rel => exact ⟨k + 1, by omega, by go_num, by rw [ix, ← HVV.out, if_neg HQ.out], trivial⟩
        case measure => simp [intOf]; omega
    · have hkq : k = n := by omega
      subst hkq
      go_wp2_with fail
      go_ret
      exact ⟨rfl, HB.out⟩
end Go.Proofs.Ytncbkedfodaabaa
