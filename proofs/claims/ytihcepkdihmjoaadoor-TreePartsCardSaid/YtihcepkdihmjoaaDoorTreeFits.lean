/- The walk through tree's fits. -/
import Derived.Test.YtihcepkdihmjoaaDoorTreeKidsFit
namespace Go.Proofs.YtihcepkdihmjoaaDoor
open Go.RowKit
set_option linter.unusedVariables false

/-- the parts of a kind's kids -/
def mkp (k : Nat) : Nat → Pt := fun i => if i = 0 then (mkg (mkOf k)).1 else (mkg (mkOf k)).2
/-- what fits tells, by the table -/
def fitT (l : List Nd) (x : Nd) : Bool :=
  if x.kind < 1 ∨ 26 < x.kind ∨ x.at_ < 0 then false
  else if (if namOf x.kind.toNat then nameB x.t else decide (x.t = [])) then btw (lim (numOf x.kind.toNat)).1 (lim (numOf x.kind.toNat)).2 x.n && greedy (mkp x.kind.toNat) (kd l x.kids)
  else false
theorem mkg_is : ∀ j, j < 11 → (mkg j).1.is < 256 ∧ (mkg j).2.is < 256
  | 0, _ => by decide
  | 1, _ => by decide
  | 2, _ => by decide
  | 3, _ => by decide
  | 4, _ => by decide
  | 5, _ => by decide
  | 6, _ => by decide
  | 7, _ => by decide
  | 8, _ => by decide
  | 9, _ => by decide
  | 10, _ => by decide
  | n + 11, h => by omega
theorem mkp_is {k : Nat} (hk : k < 27) (i : Nat) : (mkp k i).is < 256 := by
  have := mkg_is (mkOf k) (mkOf_lt k hk)
  unfold mkp
  split
  · exact this.1
  · exact this.2
set_option maxRecDepth 100000 in
set_option maxHeartbeats 4000000 in
theorem fits_low (V : Value) (K : Int) (ka : Option Addr) (kc m : Nat) (n : Int) (s : ByteArray) (at_ : Int) (w : World) (h : K < 1 ∨ 26 < K ∨ at_ < 0) :
    Calls Tryd.prog 27 #[V, .agg #[.int .i64 K, .slice ka m kc, .int .i64 n, .string s, .int .i64 at_]] w fun e w' => e = .returned (.bool false) ∧ Below w.heap.size w w' := by
  by_cases h1 : K < 1
  · clear h
    go_enter Tryd.func27, Tryd.ntmps27
    go_wp2_with fail
    go_ret
    exact ⟨rfl, (Below.refl _ _).alloc (Nat.le_refl _) _⟩
  · by_cases h2 : 26 < K
    · clear h
      go_enter Tryd.func27, Tryd.ntmps27
      go_wp2_with fail
      go_ret
      exact ⟨rfl, (Below.refl _ _).alloc (Nat.le_refl _) _⟩
    · have h3 : at_ < 0 := by omega
      clear h
      go_enter Tryd.func27, Tryd.ntmps27
      go_wp2_with fail
      go_ret
      exact ⟨rfl, (Below.refl _ _).alloc (Nat.le_refl _) _⟩
set_option maxRecDepth 100000 in
set_option maxHeartbeats 8000000 in
theorem fits_high (a ka : Option Addr) (c k kc m : Nat) (l : List Nd) (ks : List Int) (n : Int) (s : ByteArray) (at_ : Int) (w : World) (h1 : 1 ≤ k) (h2 : k ≤ 26) (h3 : 0 ≤ at_) (hs : s.size ≤ 140737488351232)
    (hT : Tabs w) (hN : Nodes w a l) (hk : Rows' .i64 w ka m (fun j => ks.getD j 0)) (hI : InL l ks) (hKn : KindsIn (kd l ks)) (hm : m = ks.length) (hcap : m ≤ kc) (hml : m ≤ 140737488351232) (hll : l.length ≤ 9223372036854775807) :
    Calls Tryd.prog 27 #[.slice a l.length c, .agg #[.int .i64 (k : Int), .slice ka m kc, .int .i64 n, .string s, .int .i64 at_]] w fun e w' => e = .returned (.bool (if (if namOf k then nameB s.data.toList else decide (s.data.toList = [])) then btw (lim (numOf k)).1 (lim (numOf k)).2 n && greedy (mkp k) (kd l ks) else false)) ∧ Below w.heap.size w w' := by
  have hk27 : k < 27 := by omega
  have t0 := cell_tab hT.rows (row_word k hk27)
  have t1 := cell_tab hT.rows (row_named k hk27)
  have t2 := cell_tab hT.rows (row_is k hk27)
  have t3 := cell_tab hT.rows (row_num k hk27)
  have t4 := cell_tab hT.rows (row_mk k hk27)
  unfold txt at t0
  have HN := hidden hN
  have HK := hidden hk
  have HI := hidden hI
  have HT := hidden hT
  have HKN := hidden hKn
  have HM := hidden hm
  have HTL := hidden (toList_of s)
  clear hN hk hI hT hKn hm
  have hnl := numOf_lt k hk27
  have hml' := mkOf_lt k hk27
  have HPI := hidden (mkp_is hk27)
  obtain ⟨W, hW⟩ : ∃ W, W = wrd k := ⟨_, rfl⟩
  obtain ⟨I, hI⟩ : ∃ I, I = isOf k := ⟨_, rfl⟩
  obtain ⟨U, hU⟩ : ∃ U, U = numOf k := ⟨_, rfl⟩
  obtain ⟨J, hJ⟩ : ∃ J, J = mkOf k := ⟨_, rfl⟩
  obtain ⟨NM, hNM⟩ : ∃ NM, NM = namOf k := ⟨_, rfl⟩
  obtain ⟨p, hp⟩ : ∃ p, p = mkp k := ⟨_, rfl⟩
  have HPV : Hid (partsV p = .agg #[.int .u8 ((mkg J).1.is : Int), .int .i64 (mkg J).1.lo, .int .i64 (mkg J).1.hi, .int .u8 ((mkg J).2.is : Int), .int .i64 (mkg J).2.lo, .int .i64 (mkg J).2.hi]) := by rw [hp, hJ]; rfl
  rw [← hW] at t0
  rw [← hNM] at t1 ⊢
  rw [← hI] at t2
  rw [← hU] at t3 hnl ⊢
  rw [← hJ] at t4 hml'
  rw [← hp] at HPI ⊢
  clear hW hI hU hJ hNM hp
  have HG2 : Hid (2 < w.heap.size) := cell_lt t0
  replace t0 := (World.cell?_alloc_lt w (.cells #[.int .i64 (k : Int), .slice ka m kc, .int .i64 n, .string s, .int .i64 at_] 36) ⟨2, k * 5, none⟩ HG2.out).trans t0
  replace t1 := (World.cell?_alloc_lt w (.cells #[.int .i64 (k : Int), .slice ka m kc, .int .i64 n, .string s, .int .i64 at_] 36) ⟨2, k * 5 + 1, none⟩ HG2.out).trans t1
  replace t2 := (World.cell?_alloc_lt w (.cells #[.int .i64 (k : Int), .slice ka m kc, .int .i64 n, .string s, .int .i64 at_] 36) ⟨2, k * 5 + 2, none⟩ HG2.out).trans t2
  replace t3 := (World.cell?_alloc_lt w (.cells #[.int .i64 (k : Int), .slice ka m kc, .int .i64 n, .string s, .int .i64 at_] 36) ⟨2, k * 5 + 3, none⟩ HG2.out).trans t3
  replace t4 := (World.cell?_alloc_lt w (.cells #[.int .i64 (k : Int), .slice ka m kc, .int .i64 n, .string s, .int .i64 at_] 36) ⟨2, k * 5 + 4, none⟩ HG2.out).trans t4
  obtain ⟨R, hR⟩ : ∃ R, R = (if (if NM then nameB s.data.toList else decide (s.data.toList = [])) then btw (lim U).1 (lim U).2 n && greedy p (kd l ks) else false) := ⟨_, rfl⟩
  rw [← hR]
  have HRt : Hid (NM = true → nameB s.data.toList = true → R = (btw (lim U).1 (lim U).2 n && greedy p (kd l ks))) := by intro h1 h2; rw [hR, h1]; simp [h2]
  have HRf : Hid (NM = true → nameB s.data.toList = false → R = false) := by intro h1 h2; rw [hR, h1]; simp [h2]
  have HRg : Hid (NM = false → s.data.toList = [] → R = (btw (lim U).1 (lim U).2 n && greedy p (kd l ks))) := by intro h1 h2; rw [hR, h1]; simp [h2]
  have HRh : Hid (NM = false → ¬ s.data.toList = [] → R = false) := by intro h1 h2; rw [hR, h1]; simp [h2]
  clear hR
  cases NM with
  | true =>
    go_enter Tryd.func27, Tryd.ntmps27
    go_wp2_with fail
    obtain ⟨w1, hw1⟩ : ∃ w1, w1 = (w.alloc (.cells #[.int .i64 (k : Int), .slice ka m kc, .int .i64 n, .string s, .int .i64 at_] 36)).alloc (.cells #[.string ⟨W.toArray⟩, .bool true, .int .u8 (I : Int), .int .u8 (U : Int), .int .u8 (J : Int)] 62) := ⟨_, rfl⟩
    have HB1 : Hid (Below w.heap.size w w1) := by rw [hw1]; exact ((Below.refl _ _).alloc (Nat.le_refl _) _).alloc (by simp) _
    have HH0 : Hid (Held w1 w.heap.size 36 #[.int .i64 (k : Int), .slice ka m kc, .int .i64 n, .string s, .int .i64 at_]) := by rw [hw1]; exact (Held.new w _ _).alloc _
    have HH1 : Hid (Held w1 (w.heap.size + 1) 62 #[.string ⟨W.toArray⟩, .bool true, .int .u8 (I : Int), .int .u8 (U : Int), .int .u8 (J : Int)]) := by
      rw [hw1]
      have := Held.new (w.alloc (.cells #[.int .i64 (k : Int), .slice ka m kc, .int .i64 n, .string s, .int .i64 at_] 36)) 62 #[.string ⟨W.toArray⟩, .bool true, .int .u8 (I : Int), .int .u8 (U : Int), .int .u8 (J : Int)]
      have e : (w.alloc (.cells #[.int .i64 (k : Int), .slice ka m kc, .int .i64 n, .string s, .int .i64 at_] 36)).heap.size = w.heap.size + 1 := by simp
      rw [e] at this
      exact this
    obtain ⟨g, hg⟩ : ∃ g, g = w.heap.size := ⟨_, rfl⟩
    rw [← hw1]
    rw [← hg] at HH0 HH1 ⊢
    have HGG := hidden hg
    clear hw1 hg
    refine (isName_any s w1 (HT.out.below HB1.out) hs).mono ?_
    rintro e w2 ⟨rfl, hw2⟩
    rw [hw2]; clear hw2 w2
    cases hb : nameB s.data.toList with
    | false =>
      have HNB := hidden hb
      clear hb
      go_wp2_with fail
      go_ret
      exact ⟨by rw [HRf.out (by first | rfl | trivial) HNB.out]; rfl, HB1.out⟩
    | true =>
      have HNB := hidden hb
      clear hb
      have r1 := HH1.out.at_ (j := 1) (v := .bool true) rfl
      go_wp2_with fail
      have HTA := HT.out.below HB1.out
      have HNA := HN.out.below HB1.out
      have HKA := HK.out.below HB1.out
      have kn := cell_regrown (HH0.out.at_ (j := 2) (v := .int .i64 n) rfl)
      have ks1 := cell_regrown (HH0.out.at_ (j := 1) (v := .slice ka m kc) rfl)
      have ku := cell_regrown (HH1.out.at_ (j := 3) (v := .int .u8 (U : Int)) rfl)
      have kj := cell_regrown (HH1.out.at_ (j := 4) (v := .int .u8 (J : Int)) rfl)
      have kl := cell_regrown (cell_tab HTA.limits (lim_lo U hnl))
      have kh := cell_regrown (cell_tab HTA.limits (lim_hi U hnl))
      have m0 := cell_regrown (cell_tab HTA.makings (mk_is0 J hml'))
      have m1 := cell_regrown (cell_tab HTA.makings (mk_lo0 J hml'))
      have m2 := cell_regrown (cell_tab HTA.makings (mk_hi0 J hml'))
      have m3 := cell_regrown (cell_tab HTA.makings (mk_is1 J hml'))
      have m4 := cell_regrown (cell_tab HTA.makings (mk_lo1 J hml'))
      have m5 := cell_regrown (cell_tab HTA.makings (mk_hi1 J hml'))
      have cF : ∀ d os, Calls Tryd.prog 43 #[.slice a l.length c, .slice ka m kc, partsV p] (Sort.grow (redrawn w1 d) os) fun e w'' => e = .returned (.bool (greedy p (kd l ks))) ∧ ∃ q : Regrown, w'' = Sort.grow (redrawn w1 q.d) q.os := fun d os => Calls.regrown_of (kidsFit_any a ka c kc m l ks p _ (HTA.below (below_regrown w1 d os)) (HNA.below (below_regrown w1 d os)) (HKA.below (below_regrown w1 d os)) HI.out HKN.out HPI.out HM.out hcap hml hll)
      rw [HPV.out] at cF
      have cW : ∀ d os, Calls Tryd.prog 42 #[.int .i64 n, .agg #[.int .i64 (lim U).1, .int .i64 (lim U).2]] (Sort.grow (redrawn w1 d) os) fun e w'' => e = .returned (.bool (btw (lim U).1 (lim U).2 n)) ∧ ∃ q : Regrown, w'' = Sort.grow (redrawn w1 q.d) q.os := fun d os => Calls.regrown_of (within_any n (lim U).1 (lim U).2 _)
      clear HTA HNA HKA
      obtain ⟨GB, hGB⟩ : ∃ GB, GB = greedy p (kd l ks) := ⟨_, rfl⟩
      obtain ⟨WB, hWB⟩ : ∃ WB, WB = btw (lim U).1 (lim U).2 n := ⟨_, rfl⟩
      rw [← hGB] at cF
      rw [← hWB] at cW
      have HGB := hidden hGB
      have HWB := hidden hWB
      clear hGB hWB
      obtain ⟨y0, hy0⟩ : ∃ y0, y0 = (mkg J).1.is := ⟨_, rfl⟩
      obtain ⟨y1, hy1⟩ : ∃ y1, y1 = (mkg J).1.lo := ⟨_, rfl⟩
      obtain ⟨y2, hy2⟩ : ∃ y2, y2 = (mkg J).1.hi := ⟨_, rfl⟩
      obtain ⟨y3, hy3⟩ : ∃ y3, y3 = (mkg J).2.is := ⟨_, rfl⟩
      obtain ⟨y4, hy4⟩ : ∃ y4, y4 = (mkg J).2.lo := ⟨_, rfl⟩
      obtain ⟨y5, hy5⟩ : ∃ y5, y5 = (mkg J).2.hi := ⟨_, rfl⟩
      obtain ⟨z1, hz1⟩ : ∃ z1, z1 = (lim U).1 := ⟨_, rfl⟩
      obtain ⟨z2, hz2⟩ : ∃ z2, z2 = (lim U).2 := ⟨_, rfl⟩
      rw [← hy0] at m0
      rw [← hy1] at m1
      rw [← hy2] at m2
      rw [← hy3] at m3
      rw [← hy4] at m4
      rw [← hy5] at m5
      rw [← hy0, ← hy1, ← hy2, ← hy3, ← hy4, ← hy5] at cF
      rw [← hz1, ← hz2] at cW
      rw [← hz1] at kl
      rw [← hz2] at kh
      clear hy0 hy1 hy2 hy3 hy4 hy5 hz1 hz2
      have hUi : (U : Int) < 5 := by omega
      have hJi : (J : Int) < 11 := by omega
      cases WB
      all_goals
        refine wp_region_quiet_below (by kernel_rfl) (by kernel_rfl) ?_
        repeat (any_goals (first | go_big_quiet_step (first | exact cF _ _ | exact cW _ _) | quiet_step (first | exact cF _ _ | exact cW _ _)))
        refine wpQuiet_nil ?_
        intro _ hw'
        obtain ⟨⟨dq, osq⟩, hw''⟩ := hw'
        obtain ⟨w2, hw2⟩ : ∃ w2, w2 = Sort.grow (redrawn w1 dq) osq := ⟨_, rfl⟩
        have HB3 : Hid (Below w.heap.size w w2) := by rw [hw2]; exact HB1.out.trans ((below_regrown w1 dq osq).mono HB1.out.size)
        rw [hw'', ← hw2]
        clear hw2 hw'' kn ks1 ku kj kl kh m0 m1 m2 m3 m4 m5 cF cW
        go_wp2_with fail
        go_ret
        exact ⟨by rw [HRt.out (by first | rfl | trivial) HNB.out, ← HWB.out, ← HGB.out]; rfl, HB3.out⟩
  | false =>
    by_cases hse : s.data.toList = []
    · have hse' : s.toList.isEmpty = true := by rw [HTL.out, hse]; rfl
      have hse2 : s.toList = [] := by rw [HTL.out, hse]
      have HSE := hidden hse
      clear hse
      go_enter Tryd.func27, Tryd.ntmps27
      go_wp2_with fail
      obtain ⟨w1, hw1⟩ : ∃ w1, w1 = (w.alloc (.cells #[.int .i64 (k : Int), .slice ka m kc, .int .i64 n, .string s, .int .i64 at_] 36)).alloc (.cells #[.string ⟨W.toArray⟩, .bool false, .int .u8 (I : Int), .int .u8 (U : Int), .int .u8 (J : Int)] 62) := ⟨_, rfl⟩
      have HB1 : Hid (Below w.heap.size w w1) := by rw [hw1]; exact ((Below.refl _ _).alloc (Nat.le_refl _) _).alloc (by simp) _
      have HH0 : Hid (Held w1 w.heap.size 36 #[.int .i64 (k : Int), .slice ka m kc, .int .i64 n, .string s, .int .i64 at_]) := by rw [hw1]; exact (Held.new w _ _).alloc _
      have HH1 : Hid (Held w1 (w.heap.size + 1) 62 #[.string ⟨W.toArray⟩, .bool false, .int .u8 (I : Int), .int .u8 (U : Int), .int .u8 (J : Int)]) := by
        rw [hw1]
        have := Held.new (w.alloc (.cells #[.int .i64 (k : Int), .slice ka m kc, .int .i64 n, .string s, .int .i64 at_] 36)) 62 #[.string ⟨W.toArray⟩, .bool false, .int .u8 (I : Int), .int .u8 (U : Int), .int .u8 (J : Int)]
        have e : (w.alloc (.cells #[.int .i64 (k : Int), .slice ka m kc, .int .i64 n, .string s, .int .i64 at_] 36)).heap.size = w.heap.size + 1 := by simp
        rw [e] at this
        exact this
      obtain ⟨g, hg⟩ : ∃ g, g = w.heap.size := ⟨_, rfl⟩
      rw [← hw1]
      rw [← hg] at HH0 HH1 ⊢
      have HGG := hidden hg
      clear hw1 hg
      have HTA := HT.out.below HB1.out
      have HNA := HN.out.below HB1.out
      have HKA := HK.out.below HB1.out
      have kn := cell_regrown (HH0.out.at_ (j := 2) (v := .int .i64 n) rfl)
      have ks1 := cell_regrown (HH0.out.at_ (j := 1) (v := .slice ka m kc) rfl)
      have ku := cell_regrown (HH1.out.at_ (j := 3) (v := .int .u8 (U : Int)) rfl)
      have kj := cell_regrown (HH1.out.at_ (j := 4) (v := .int .u8 (J : Int)) rfl)
      have kl := cell_regrown (cell_tab HTA.limits (lim_lo U hnl))
      have kh := cell_regrown (cell_tab HTA.limits (lim_hi U hnl))
      have m0 := cell_regrown (cell_tab HTA.makings (mk_is0 J hml'))
      have m1 := cell_regrown (cell_tab HTA.makings (mk_lo0 J hml'))
      have m2 := cell_regrown (cell_tab HTA.makings (mk_hi0 J hml'))
      have m3 := cell_regrown (cell_tab HTA.makings (mk_is1 J hml'))
      have m4 := cell_regrown (cell_tab HTA.makings (mk_lo1 J hml'))
      have m5 := cell_regrown (cell_tab HTA.makings (mk_hi1 J hml'))
      have cF : ∀ d os, Calls Tryd.prog 43 #[.slice a l.length c, .slice ka m kc, partsV p] (Sort.grow (redrawn w1 d) os) fun e w'' => e = .returned (.bool (greedy p (kd l ks))) ∧ ∃ q : Regrown, w'' = Sort.grow (redrawn w1 q.d) q.os := fun d os => Calls.regrown_of (kidsFit_any a ka c kc m l ks p _ (HTA.below (below_regrown w1 d os)) (HNA.below (below_regrown w1 d os)) (HKA.below (below_regrown w1 d os)) HI.out HKN.out HPI.out HM.out hcap hml hll)
      rw [HPV.out] at cF
      have cW : ∀ d os, Calls Tryd.prog 42 #[.int .i64 n, .agg #[.int .i64 (lim U).1, .int .i64 (lim U).2]] (Sort.grow (redrawn w1 d) os) fun e w'' => e = .returned (.bool (btw (lim U).1 (lim U).2 n)) ∧ ∃ q : Regrown, w'' = Sort.grow (redrawn w1 q.d) q.os := fun d os => Calls.regrown_of (within_any n (lim U).1 (lim U).2 _)
      clear HTA HNA HKA
      obtain ⟨GB, hGB⟩ : ∃ GB, GB = greedy p (kd l ks) := ⟨_, rfl⟩
      obtain ⟨WB, hWB⟩ : ∃ WB, WB = btw (lim U).1 (lim U).2 n := ⟨_, rfl⟩
      rw [← hGB] at cF
      rw [← hWB] at cW
      have HGB := hidden hGB
      have HWB := hidden hWB
      clear hGB hWB
      obtain ⟨y0, hy0⟩ : ∃ y0, y0 = (mkg J).1.is := ⟨_, rfl⟩
      obtain ⟨y1, hy1⟩ : ∃ y1, y1 = (mkg J).1.lo := ⟨_, rfl⟩
      obtain ⟨y2, hy2⟩ : ∃ y2, y2 = (mkg J).1.hi := ⟨_, rfl⟩
      obtain ⟨y3, hy3⟩ : ∃ y3, y3 = (mkg J).2.is := ⟨_, rfl⟩
      obtain ⟨y4, hy4⟩ : ∃ y4, y4 = (mkg J).2.lo := ⟨_, rfl⟩
      obtain ⟨y5, hy5⟩ : ∃ y5, y5 = (mkg J).2.hi := ⟨_, rfl⟩
      obtain ⟨z1, hz1⟩ : ∃ z1, z1 = (lim U).1 := ⟨_, rfl⟩
      obtain ⟨z2, hz2⟩ : ∃ z2, z2 = (lim U).2 := ⟨_, rfl⟩
      rw [← hy0] at m0
      rw [← hy1] at m1
      rw [← hy2] at m2
      rw [← hy3] at m3
      rw [← hy4] at m4
      rw [← hy5] at m5
      rw [← hy0, ← hy1, ← hy2, ← hy3, ← hy4, ← hy5] at cF
      rw [← hz1, ← hz2] at cW
      rw [← hz1] at kl
      rw [← hz2] at kh
      clear hy0 hy1 hy2 hy3 hy4 hy5 hz1 hz2
      have hUi : (U : Int) < 5 := by omega
      have hJi : (J : Int) < 11 := by omega
      cases WB
      all_goals
        refine wp_region_quiet_below (by kernel_rfl) (by kernel_rfl) ?_
        repeat (any_goals (first | go_big_quiet_step (first | exact cF _ _ | exact cW _ _) | quiet_step (first | exact cF _ _ | exact cW _ _)))
        refine wpQuiet_nil ?_
        intro _ hw'
        obtain ⟨⟨dq, osq⟩, hw''⟩ := hw'
        obtain ⟨w2, hw2⟩ : ∃ w2, w2 = Sort.grow (redrawn w1 dq) osq := ⟨_, rfl⟩
        have HB3 : Hid (Below w.heap.size w w2) := by rw [hw2]; exact HB1.out.trans ((below_regrown w1 dq osq).mono HB1.out.size)
        rw [hw'', ← hw2]
        clear hw2 hw'' kn ks1 ku kj kl kh m0 m1 m2 m3 m4 m5 cF cW
        go_wp2_with fail
        go_ret
        exact ⟨by rw [HRg.out (by first | rfl | trivial) HSE.out, ← HWB.out, ← HGB.out]; rfl, HB3.out⟩
    · have hse' : s.toList.isEmpty = false := by rw [HTL.out, List.isEmpty_eq_false_iff]; exact hse
      have hse2 : ¬ s.toList = [] := by rw [HTL.out]; exact hse
      have HSE := hidden hse
      clear hse
      go_enter Tryd.func27, Tryd.ntmps27
      go_wp2_with fail
      go_ret
      exact ⟨by rw [HRh.out (by first | rfl | trivial) HSE.out]; rfl, ((Below.refl _ _).alloc (Nat.le_refl _) _).alloc (by simp) _⟩
/-- fits, whatever the node -/
theorem fitsT_any (a : Option Addr) (c : Nat) (l : List Nd) (x : Nd) (w : World) (hT : Tabs w) (hN : Nodes w a l) (hx : Ok w x) (hI : InL l x.kids) (hKn : KindsIn (kd l x.kids)) (hll : l.length ≤ 9223372036854775807) :
    Calls Tryd.prog 27 #[.slice a l.length c, x.v] w fun e w' => e = .returned (.bool (fitT l x)) ∧ Below w.heap.size w w' := by
  obtain ⟨K, ka, kc, ks, n, s, at_⟩ := x
  have h1 := hx.rows
  have h2 := hx.cap
  have h3 := hx.len
  have h4 := hx.s
  by_cases h : K < 1 ∨ 26 < K ∨ at_ < 0
  · refine (fits_low _ K ka kc ks.length n s at_ w h).mono ?_
    rintro e w' ⟨rfl, hb⟩
    refine ⟨?_, hb⟩
    unfold fitT
    rw [if_pos h]
  · obtain ⟨k, rfl⟩ : ∃ k : Nat, K = k := ⟨K.toNat, by omega⟩
    refine (fits_high a ka c k kc ks.length l ks n s at_ w (by omega) (by omega) (by omega) h4 hT hN h1 hI hKn rfl h2 h3 hll).mono ?_
    rintro e w' ⟨rfl, hb⟩
    refine ⟨?_, hb⟩
    unfold fitT
    rw [if_neg h]
    rfl
end Go.Proofs.YtihcepkdihmjoaaDoor
