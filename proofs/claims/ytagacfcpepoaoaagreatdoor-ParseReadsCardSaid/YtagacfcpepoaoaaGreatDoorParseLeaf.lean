/- The walks through the parser's small functions. -/
import Derived.Test.YtagacfcpepoaoaaGreatDoorMAny
import Derived.StillTailTactics
import Derived.Deep.RegionLaw
import Derived.Deep.AppendLies
import Derived.Deep.DeepCutAuto
namespace Go.Proofs.YtagacfcpepoaoaaGreatDoor
open Go.RowKit
set_option linter.unusedVariables false

variable {B g P T N : Nat} {L : List Tk} {w0 w w' : World} {R0 R R' : Bx} {d : Nat} {o : Except Flt PS} {v : Value} {acc : List Int} {K n : Int} {S : ByteArray}
/-- append of one number, in a region that draws -/
theorem step_kid {ops : Array Oper} {o : Oper} {a : Act} {K : Act → World → Prop} {Q : Exit → Act → World → Prop} {E : Prop} (hgd : o.guard = none) (s x : Operand)
    (ho : o.op = .call { callee := .builtin .append, args := #[s, x], argTypes := #[45, 45] })
    (B : Nat) (w : World) (v : Value) (xs : List Int) (z : Int) (hs : a.eval s = v) (hx : a.eval x = .slice (some ⟨w.heap.size, 0, none⟩) 1 1) (hb : Now B w v xs) (hB : B ≤ w.heap.size) (hlen : xs.length ≤ 10000000)
    (h : ∀ v' w', Now B w' v' (xs ++ [z]) → (w.alloc (.cells #[.int .i64 z] 3)).grownBy w' v.ownBlock → (∀ k, v'.ownBlock = some k → v.ownBlock = some k ∨ k = (w.alloc (.cells #[.int .i64 z] 3)).heap.size) → K (a.put o.dst v') w') :
    if Region.wanted o (yielded ops a.tmps) = true then Oper.wp Tryz.prog o a (w.alloc (.cells #[.int .i64 z] 3)) K Q else E := by
  obtain ⟨i0, hi, hz0, hz1, hz2⟩ := info_parts infoI
  refine step_append_lies _ hgd s x 45 ho B 3 i0 (.int .i64 0) 1 8 Tryz.underlying45 hi hz0 hz1 hz2 rfl (by decide) v xs.length (xs.map (Value.int .i64)) hs (World.ownsRow.alloc hb _) ⟨w.heap.size, 0, none⟩ 1 1 [.int .i64 z] hx rfl ?_ ?_ (by decide) (by unfold maxLen; omega) (by omega) (by simp; omega) _ rfl ?_
  · intro j u hj
    match j, hj with
    | 0, hj => simp at hj; subst hj; simp [Addr.add]
  · intro u hu; simp at hu; subst hu; rfl
  · intro g cap w' hown hgrow hw hlt
    refine h (.slice (some ⟨g, 0, none⟩) (xs.length + 1) cap) w' (by unfold Now; rw [List.length_append, List.map_append]; exact hown) hgrow (fun k hk => ?_)
    simp [Value.ownBlock] at hk
    subst hk
    exact hw
theorem Lim.need_le {b : List UInt8} {n m : Nat} (h : Lim o n m) : Lim (needO b o) n m := by
  cases o with
  | error f => exact Lim.err
  | ok s =>
    cases hb : s.is b with
    | true =>
      have h1 := h s rfl
      have h2 := is_some hb
      exact ((Lim.need (b := b) (n := n - 1) (m := m - 1) (h.mono (by omega) (by omega))).mono (by omega) (by omega))
    | false => rw [needO_no hb]; exact Lim.err
theorem Lim.name_le {n m : Nat} (h : Lim o n m) : Lim (nameO o) n m := by
  cases o with
  | error f => exact Lim.err
  | ok s =>
    by_cases hb : s.tok.kind = 1
    · have h1 := h s rfl
      have h2 := kind_some (s := s) (by omega)
      exact ((Lim.name (n := n - 1) (m := m - 1) (h.mono (by omega) (by omega))).mono (by omega) (by omega))
    · rw [nameO_no hb]; exact Lim.err
theorem Run.came {a : Int} (H : Run B g P T L w0 R0 d w R o N K v acc n S a) {u : Out} {en : Ending} (C : Came B g L w R d u en w' R') : Came B g L w0 R0 d u en w' { R' with Z := R0.Z } :=
  ⟨(H.fr.trans C.fr).right _, rfl, C.en, C.any.less _ (fun k hk => by rw [C.z]; exact H.z0 k hk)⟩
/-- a part was read, and its number put behind the node's -/
def Pushed (B g P T : Nat) (L : List Tk) (w0 : World) (R0 : Bx) (d : Nat) (o : Except Flt PS) (F : PS → Nat → Option Out) (N : Nat) (K : Int) (acc : List Int) (n : Int) (S : ByteArray) (a : Int) (wx : World) : Prop :=
  ∃ u R3 v3, Does o F u ∧ (∀ n m, Lim o n m → Lim (toO u) n m) ∧ Run B g P T L w0 R0 d wx R3 (toO u) N K v3 (acc ++ [kidO u]) n S a
theorem Run.n0 {a : Int} (H : Run B g P T L w0 R0 d w R o N K v acc n S a) : w.cell? ⟨N, 0, none⟩ = some (.int .i64 K) := H.box.at_ rfl
theorem Run.n1 {a : Int} (H : Run B g P T L w0 R0 d w R o N K v acc n S a) : w.cell? ⟨N, 1, none⟩ = some v := H.box.at_ rfl
theorem Run.n2 {a : Int} (H : Run B g P T L w0 R0 d w R o N K v acc n S a) : w.cell? ⟨N, 2, none⟩ = some (.int .i64 n) := H.box.at_ rfl
theorem Run.n3 {a : Int} (H : Run B g P T L w0 R0 d w R o N K v acc n S a) : w.cell? ⟨N, 3, none⟩ = some (.string S) := H.box.at_ rfl
theorem Run.n4 {a : Int} (H : Run B g P T L w0 R0 d w R o N K v acc n S a) : w.cell? ⟨N, 4, none⟩ = some (.int .i64 a) := H.box.at_ rfl
set_option maxRecDepth 100000 in
theorem end_any {a : Nat} (H : Pre B g P T L w0 R0 d w R o v acc) (hl : Lim o L.length L.length) (hn : acc.length ≤ 100000) :
    Calls Tryz.prog 38 #[.pointer (some ⟨P, 0, none⟩), .agg #[.int .i64 K, v, .int .i64 n, .string S, .int .i64 (a : Int)]] w fun en w' => ∃ u R', Does o (fun s _ => need semi s fun s1 => some (lay (En K acc n S (a : Int)) s1)) u ∧ Came B g L w0 R0 d u en w' R' ∧ ∀ n m, Lim o (n + 1) (m + 1) → Lim (toO u) (n + 1) m := by
  obtain ⟨W, hW⟩ : ∃ W, W = w.alloc (.cells #[.int .i64 K, v, .int .i64 n, .string S, .int .i64 (a : Int)] 59) := ⟨_, rfl⟩
  obtain ⟨N, hN⟩ : ∃ N, N = w.heap.size := ⟨_, rfl⟩
  have HR : Hid (Run B g P T L w0 R0 d W R o N K v acc n S (a : Int)) := by rw [hW, hN]; exact H.node K n S a
  have HL := hidden hl
  have HN := hidden hn
  have hp := HR.out.par.c0
  clear H hl hn
  go_enter Tryz.func38, Tryz.ntmps38
  rw [veil 1]
  go_wp2_with fail
  rw [← hW, ← hN]
  clear hW hN
  refine wp_veil ?_
  go_wp2_with fail
  refine (any_want semi HR.out.any).mono ?_
  rintro en w1 ⟨⟨x, rfl⟩, ha, hf⟩
  replace HR := hidden (HR.out.step ha hf rfl)
  clear ha hf hp
  have hp := HR.out.par.c0
  have b0 := HR.out.n0
  have b1 := HR.out.n1
  have b2 := HR.out.n2
  have b3 := HR.out.n3
  have b4 := HR.out.n4
  go_wp2_with fail
  go_still_tail 5, (by kernel_rfl)
  change wpList _ _ _ _ _ w1.drew
  replace HR := hidden (HR.out.below (below_drew w1))
  go_wp2_with fail
  refine (any_put K v acc n S a HR.out.any HR.out.now (Lim.need_le HL.out) HN.out).mono ?_
  rintro en w2 ⟨u, R', hdo, hc, hli⟩
  obtain rfl := hc.en
  have HC := hidden (HR.out.came hc)
  have HD := hidden (Does.need (b := semi) (G := fun s _ => some (lay (En K acc n S (a : Int)) s)) hdo)
  have HLI := hidden hli
  clear hdo hc hli
  go_wp2_with fail
  go_ret
  exact ⟨u, _, HD.out, HC.out, fun n m h => HLI.out n m h.need⟩
set_option maxRecDepth 100000 in
theorem value_any {a : Nat} (H : Pre B g P T L w0 R0 d w R o v acc) (hd : ∀ s, o = .ok s → d ≤ 200) (hl : Lim o L.length L.length) (hn : acc.length ≤ 1000) :
    Calls Tryz.prog 39 #[.pointer (some ⟨P, 0, none⟩), .agg #[.int .i64 K, v, .int .i64 n, .string S, .int .i64 (a : Int)]] w fun en w' => ∃ u R', Does o (fun s m => needEx m d s fun k s1 => need semi s1 fun s2 => some (lay (En K (acc ++ [k]) n S (a : Int)) s2)) u ∧ Came B g L w0 R0 d u en w' R' ∧ ∀ n m, Lim o (n + 1) (m + 1) → Lim (toO u) (n + 1) m := by
  obtain ⟨W, hW⟩ : ∃ W, W = w.alloc (.cells #[.int .i64 K, v, .int .i64 n, .string S, .int .i64 (a : Int)] 59) := ⟨_, rfl⟩
  obtain ⟨N, hN⟩ : ∃ N, N = w.heap.size := ⟨_, rfl⟩
  have HR : Hid (Run B g P T L w0 R0 d W R o N K v acc n S (a : Int)) := by rw [hW, hN]; exact H.node K n S a
  have HL := hidden hl
  have HN := hidden hn
  have HDD := hidden hd
  clear H hl hn hd
  go_enter Tryz.func39, Tryz.ntmps39
  go_wp2_with fail
  rw [← hW, ← hN]
  clear hW hN
  have HRD := hidden (HR.out.below (below_drew W))
  have b1 := HR.out.n1
  have hp := HR.out.par.c0
  go_cut [] (fun wx => Hid (Pushed B g P T L w0 R0 d o (fun s n => rd n (.chain 0) d s) N K acc n S (a : Int) wx))
  case first =>
    go_region_law (first
      | (go_simp; go_at_call 65; refine (any_expr HRD.out.any HDD.out).mono ?_; rintro en w2 ⟨u, R2, hdo, hc, hli⟩; obtain rfl := hc.en; have HR2 := hidden (HRD.out.step hc.any hc.fr hc.z); have HDO := hidden hdo; have HLI := hidden hli; obtain ⟨k, hk⟩ : ∃ k, k = kidO u := ⟨_, rfl⟩; rw [← hk]; have HK := hidden hk; clear hdo hc hli hk; have c1 := HR2.out.n1; have c2 := (HR2.out.below ((Below.refl _ _).alloc (Nat.le_refl _) (.cells #[.int .i64 k] 3))).n1)
      | (refine step_kid rfl (.tmp 6) (.tmp 12) rfl w0.heap.size w2 v acc k (by rfl) (by rfl) HR2.out.now HR2.out.fr.size (by have := HN.out; omega) ?_; intro v3 w3 h3 hg3 hw3; obtain ⟨va, vc, hv3⟩ := own_shape5 h3; obtain ⟨R3, hr3, hc3, hf3⟩ := HR2.out.push h3 hg3 hw3; have HR3 := hidden hr3; clear hr3 h3 hg3 hw3; rw [List.length_append, List.length_singleton] at hv3; subst hv3))
    all_goals
      go_wp2_with fail
      go_meet
      exact ⟨u, R3, _, HDO.out, HLI.out, by rw [← HK.out]; exact HR3.out⟩
  case rest =>
    obtain ⟨u1, R1, v1, hdo, hli, hr⟩ := hcut.out
    obtain ⟨W1, hwc⟩ : ∃ W1, W1 = wc := ⟨_, rfl⟩
    rw [← hwc] at hr ⊢
    have HX := hidden hr
    have HD1 := hidden hdo
    have HL1 := hidden hli
    clear hcut hdo hli hr hwc hp b1 HRD
    have b0 := HX.out.n0
    have b1 := HX.out.n1
    have b2 := HX.out.n2
    have b3 := HX.out.n3
    have b4 := HX.out.n4
    go_wp2_with fail
    refine (end_any HX.out.toPre (HL1.out _ _ HL.out) (by rw [List.length_append]; have := HN.out; simp; omega)).mono ?_
    rintro en w5 ⟨u2, R5, hd2, hc2, hl2⟩
    obtain rfl := hc2.en
    have HD2 := hidden hd2
    have HC2 := hidden hc2
    have HL2 := hidden hl2
    clear hd2 hc2 hl2
    go_wp2_with fail
    go_ret
    exact ⟨u2, R5, Does.ex (G := fun k s1 m => need semi s1 fun s2 => some (lay (En K (acc ++ [k]) n S (a : Int)) s2)) HD1.out HD2.out, HC2.out, fun n m h => HL2.out n m (HL1.out _ _ h)⟩
set_option maxRecDepth 100000 in
theorem assigned_any {a : Nat} (H : Pre B g P T L w0 R0 d w R o v acc) (hd : ∀ s, o = .ok s → d ≤ 200) (hl : Lim o L.length L.length) (hn : acc.length ≤ 1000) :
    Calls Tryz.prog 63 #[.pointer (some ⟨P, 0, none⟩), .agg #[.int .i64 K, v, .int .i64 n, .string S, .int .i64 (a : Int)]] w fun en w' => ∃ u R', Does o (fun s m => need eqs s fun s0 => needEx m d s0 fun k s1 => need semi s1 fun s2 => some (lay (En K (acc ++ [k]) n S (a : Int)) s2)) u ∧ Came B g L w0 R0 d u en w' R' ∧ ∀ n m, Lim o (n + 1) (m + 1) → Lim (toO u) (n + 1) m := by
  obtain ⟨W, hW⟩ : ∃ W, W = w.alloc (.cells #[.int .i64 K, v, .int .i64 n, .string S, .int .i64 (a : Int)] 59) := ⟨_, rfl⟩
  obtain ⟨N, hN⟩ : ∃ N, N = w.heap.size := ⟨_, rfl⟩
  have HR : Hid (Run B g P T L w0 R0 d W R o N K v acc n S (a : Int)) := by rw [hW, hN]; exact H.node K n S a
  have hp := HR.out.par.c0
  have HL := hidden hl
  have HN := hidden hn
  have HDD := hidden hd
  clear H hl hn hd
  go_enter Tryz.func63, Tryz.ntmps63
  rw [veil 1, veil 2]
  go_wp2_with fail
  rw [← hW, ← hN]
  clear hW hN
  refine wp_veil ?_
  go_wp2_with fail
  refine (any_want eqs HR.out.any).mono ?_
  rintro en w1 ⟨⟨x, rfl⟩, ha, hf⟩
  replace HR := hidden (HR.out.step ha hf rfl)
  clear ha hf hp
  have b0 := HR.out.n0
  have b1 := HR.out.n1
  have b2 := HR.out.n2
  have b3 := HR.out.n3
  have b4 := HR.out.n4
  go_wp2_with fail
  refine wp_veil ?_
  go_wp2_with fail
  refine (value_any HR.out.toPre (fun s hs => by cases o with | error f => cases hs | ok s => exact HDD.out s rfl) (Lim.need_le HL.out) HN.out).mono ?_
  rintro en w5 ⟨u2, R5, hd2, hc2, hl2⟩
  obtain rfl := hc2.en
  have HD2 := hidden (Does.need (b := eqs) (G := fun s0 m => needEx m d s0 fun k s1 => need semi s1 fun s2 => some (lay (En K (acc ++ [k]) n S (a : Int)) s2)) hd2)
  have HC2 := hidden hc2
  have HL2 := hidden hl2
  clear hd2 hc2 hl2
  go_wp2_with fail
  go_ret
  exact ⟨u2, R5, HD2.out, HC2.out, fun n m h => HL2.out n m (Lim.need_le h)⟩
set_option maxRecDepth 100000 in
theorem pnamed_any (H : Any B g L w R d o) (hP : Par w g P T) (K : Int) :
    Calls Tryz.prog 64 #[.pointer (some ⟨P, 0, none⟩), .int .i64 K] w fun en w' => ∃ a : Nat, en = .returned (.agg #[.int .i64 K, .slice none 0 0, .int .i64 0, .string (nmO o), .int .i64 (a : Int)]) ∧ (∀ s, o = .ok s → a = s.tok.place) ∧ Any B g L w' R d (nameO o) ∧ Fr g w w' R R := by
  obtain ⟨W, hW⟩ : ∃ W, W = w.alloc (.cells #[.int .i64 0, .slice none 0 0, .int .i64 0, .string ⟨#[]⟩, .int .i64 0] 59) := ⟨_, rfl⟩
  obtain ⟨N, hN⟩ : ∃ N, N = w.heap.size := ⟨_, rfl⟩
  have HR : Hid (Run B g P T L w R d W R o N 0 (.slice none 0 0) [] 0 ⟨#[]⟩ 0) := by rw [hW, hN]; exact (Pre.start H hP).node 0 0 ⟨#[]⟩ 0
  have hfd := field_at
  have hp := HR.out.par.c0
  clear H hP
  go_enter Tryz.func64, Tryz.ntmps64
  rw [veil 1, veil 2]
  go_wp2_with fail
  rw [← hW, ← hN]
  clear hW hN
  refine wp_veil ?_
  go_wp2_with fail
  refine (any_token HR.out.any).mono ?_
  rintro en w1 ⟨tk, tn, ta, tx, rfl, hta, hb⟩
  have HTA := hidden hta
  replace HR := hidden (HR.out.below hb)
  clear hb hta hp
  have hp := HR.out.par.c0
  go_wp2_with fail
  refine wp_veil ?_
  go_wp2_with fail
  refine (any_name HR.out.any).mono ?_
  rintro en w2 ⟨rfl, ha, hf⟩
  replace HR := hidden (HR.out.step ha hf rfl)
  obtain ⟨X, hX⟩ : ∃ X, X = nmO o := ⟨_, rfl⟩
  rw [← hX]
  have HX := hidden hX
  clear ha hf hp hX
  have b0 := HR.out.n0
  have b1 := HR.out.n1
  have b2 := HR.out.n2
  have b3 := HR.out.n3
  have b4 := HR.out.n4
  have g0 := HR.out.box.frozen 0
  have g1 := HR.out.box.frozen 1
  have g2 := HR.out.box.frozen 2
  have g3 := HR.out.box.frozen 3
  have g4 := HR.out.box.frozen 4
  go_wp2_with fail
  have HS := hidden (HR.out.store5 K 0 X (ta : Int))
  obtain ⟨W5, hW5⟩ : ∃ W5, W5 = (((((w2.setCell ⟨N, 0, none⟩ (.int .i64 K)).setCell ⟨N, 1, none⟩ (.slice none 0 0)).setCell ⟨N, 2, none⟩ (.int .i64 0)).setCell ⟨N, 3, none⟩ (.string X)).setCell ⟨N, 4, none⟩ (.int .i64 (ta : Int))) := ⟨_, rfl⟩
  rw [← hW5] at HS ⊢
  clear hW5 b0 b1 b2 b3 b4 g0 g1 g2 g3 g4
  have b0 := HS.out.n0
  have b1 := HS.out.n1
  have b2 := HS.out.n2
  have b3 := HS.out.n3
  have b4 := HS.out.n4
  exact bodyPost_ret (v := .agg #[.int .i64 K, .slice none 0 0, .int .i64 0, .string X, .int .i64 (ta : Int)]) (by simp [results, Tryz.results64, go_sem, b0, b1, b2, b3, b4]) rfl ⟨ta, by rw [HX.out], fun s hs => (HTA.out s hs).2, HS.out.any, HS.out.fr⟩
end Go.Proofs.YtagacfcpepoaoaaGreatDoor
