/- The walk through the reference's Tokens. -/
import Derived.Test.YtagacfcpepoaoaaGreatDoorRefLex4
import Derived.Test.YtagacfcpepoaoaaGreatDoorMGen
namespace Go.Proofs.YtagacfcpepoaoaaGreatDoor
open Go.RowKit
set_option linter.unusedVariables false

theorem tkCells_snoc (L : List Tk) (t : Tk) : tkCells (L ++ [t]) = tkCells L ++ tkv t := by
  unfold tkCells
  rw [List.flatMap_append, List.flatMap_singleton]
/-- what the reference's Tokens tells -/
def RTold (l : List UInt8) (w : World) (e : Ending) (w' : World) : Prop :=
  (∃ L v, T l 0 = .ok L ∧ e = .returned (.tuple #[v, .agg #[.int .i64 0, .int .i64 0]]) ∧ Vals 49 4 w w' v L.length (tkCells L)) ∨
  (∃ x p : Nat, T l 0 = .error (x, p) ∧ e = .returned (.tuple #[.slice none 0 0, .agg #[.int .i64 (x : Int), .int .i64 (p : Int)]]) ∧ Below w.heap.size w w')
theorem infoTok : (Tryz.prog.info? 49).map (fun i => (i.zero, i.size, i.bytes)) = some (some (.agg #[.int .i64 0, .string ⟨#[]⟩, .int .i64 0, .int .i64 0]), 4, 40) := by kernel_rfl
theorem below_next {w w1 w2 : World} (h : Below w.heap.size w w1) (k : Below w1.heap.size w1 w2) : Below w.heap.size w w2 := h.trans (k.mono h.size)
theorem ext_drop {s : ByteArray} {l : List UInt8} (hl : l = s.data.toList) (p : Nat) : (s.extract p s.size).data.toList = l.drop p := by
  rw [ByteArray.data_extract]
  have hlen : l.length = s.size := by rw [hl]; exact Array.length_toList
  simp [hl]
  have e : s.size - p = s.data.toList.length - p := by rw [length_of]
  rw [e, ← List.length_drop, List.take_length]
/-- who goes on from p, with L behind -/
def From (l : List UInt8) (L : List Tk) (p : Nat) : Prop := T l 0 = (S (l.drop p) p).map (fun M => L ++ M)
theorem From.start (l : List UInt8) : From l [] (skp false l) := by
  unfold From T
  rw [Nat.zero_add]
  cases S (l.drop (skp false l)) (skp false l) <;> rfl
theorem From.next {l : List UInt8} {L : List Tk} {p : Nat} (h : From l L p) (hp : p < l.length) (he : er (l.drop p) = 0) : From l (L ++ [tk (l.drop p) p]) (p + off (l.drop p)) := by
  unfold From at h ⊢
  have hne : l.drop p ≠ [] := by intro e; have := congrArg List.length e; rw [List.length_drop] at this; simp at this; omega
  rw [h, S_tok p hne he]
  have hn : nxt (l.drop p) = l.drop (p + off (l.drop p)) := by unfold nxt; rw [List.drop_drop]
  rw [hn]
  cases S (l.drop (p + off (l.drop p))) (p + off (l.drop p)) with
  | error x => rfl
  | ok M => show Except.ok (L ++ tk (l.drop p) p :: M) = Except.ok (L ++ [tk (l.drop p) p] ++ M); rw [List.append_assoc]; rfl
theorem From.bad {l : List UInt8} {L : List Tk} {p : Nat} (h : From l L p) (hp : p < l.length) (he : er (l.drop p) ≠ 0) : T l 0 = .error (er (l.drop p), p) := by
  unfold From at h
  have hne : l.drop p ≠ [] := by intro e; have := congrArg List.length e; rw [List.length_drop] at this; simp at this; omega
  rw [h, S_bad p hne he]
  rfl
theorem From.done {l : List UInt8} {L : List Tk} {p : Nat} (h : From l L p) (hp : p = l.length) : T l 0 = .ok (L ++ [⟨0, [], 0, p⟩]) := by
  unfold From at h
  rw [h, List.drop_of_length_le (by omega), S_nil]
  rfl
set_option maxRecDepth 100000 in
set_option maxHeartbeats 4000000 in
theorem rtokens_any (s : ByteArray) (w : World) (hs : s.size ≤ 65536) :
    Calls Tryz.prog 15 #[.string s] w fun e w' => RTold s.data.toList w e w' := by
  obtain ⟨l, hl⟩ : ∃ l, l = s.data.toList := ⟨_, rfl⟩
  have hlen : l.length = s.size := by rw [hl]; exact Array.length_toList
  have HLEN := hidden hlen
  rw [← hl]
  have HL := hidden hl
  clear hl hlen
  have hz : skp false l ≤ s.size := by rw [← HLEN.out]; exact skp_le _ _
  obtain ⟨z, hzz⟩ : ∃ z, z = skp false l := ⟨_, rfl⟩
  rw [← hzz] at hz
  have HZ := hidden hzz
  clear hzz
  go_enter Tryz.func15, Tryz.ntmps15
  rw [veil 7, veil 9, veil 10, veil 11, veil 12]
  go_wp2_with fail
  obtain ⟨W, hW⟩ : ∃ W, W = w.alloc (.cells #[.int .i64 0, .int .i64 0] 26) := ⟨_, rfl⟩
  rw [← hW]
  obtain ⟨A, hA⟩ : ∃ A, A = w.heap.size := ⟨_, rfl⟩
  have HA : Hid (w.heap.size ≤ A) := by show w.heap.size ≤ A; omega
  have HH : Hid (Held W A 26 #[.int .i64 0, .int .i64 0]) := by rw [hW, hA]; exact Held.new _ _ _
  have HB : Hid (Below w.heap.size w W) := by rw [hW]; exact (Below.refl _ _).alloc (Nat.le_refl _) _
  rw [← hA]
  clear hW hA
  refine (refSkip_any s W (by omega)).mono ?_
  rintro e w1 ⟨rfl, hw1⟩
  rw [hw1, ← HL.out, ← HZ.out]; clear hw1 w1
  go_wp2_with fail
  go_loopw [4, 5] (fun v i wr => ∃ (p n : Nat) (L : List Tk), p ≤ s.size ∧ n ≤ p ∧ i = .int .i64 (p : Int) ∧ Hid (n = L.length) ∧ Hid (From l L p) ∧ Hid (Vals 49 4 W wr v n (tkCells L))) (fun _ i _ => s.size - (intOf i).toNat)
  case atStart => exact ⟨z, 0, [], hz, Nat.zero_le _, rfl, rfl, (show From l [] z by rw [HZ.out]; exact From.start l), Vals.nil _ _ _⟩
  case round =>
    obtain ⟨p, n, L, hp, hnp, rfl, hn, hF, hV⟩ := hrel
    by_cases hlt : p < s.size
    · have hpl : Hid (p < l.length) := by show p < l.length; rw [HLEN.out]; exact hlt
      go_wp2_with fail
      refine (rone_any (s.extract p s.size) p wr (by rw [ByteArray.size_extract]; omega) (by rw [ByteArray.size_extract]; omega)).mono ?_
      rintro e w1 ⟨hTold, hb⟩
      rw [ext_drop HL.out p] at hTold
      obtain ⟨r, hr⟩ : ∃ r, r = l.drop p := ⟨_, rfl⟩
      rw [← hr] at hTold
      rcases hTold with ⟨he, rfl⟩ | ⟨he, rfl⟩
      · obtain ⟨k, hk⟩ : ∃ k, k = (tk r p).kind := ⟨_, rfl⟩
        obtain ⟨S, hS⟩ : ∃ S : ByteArray, S = ⟨(tk r p).text.toArray⟩ := ⟨_, rfl⟩
        obtain ⟨N, hN⟩ : ∃ N, N = (tk r p).n := ⟨_, rfl⟩
        have hcs : tkv (tk r p) = [.int .i64 (k : Int), .string S, .int .i64 (N : Int), .int .i64 (p : Int)] := by rw [hk, hS, hN]; rfl
        have hlr := ln_le r
        have hrl : r.length = s.size - p := by rw [hr, List.length_drop, HLEN.out]
        have hSs : S.size = ln r := by
          rw [hS]
          show (r.take (ln r)).toArray.size = _
          rw [List.size_toArray, List.length_take]
          omega
        obtain ⟨E, hE⟩ : ∃ E, E = p + S.size := ⟨_, rfl⟩
        have hES : E ≤ s.size := by omega
        have hpE : (p : Int) + (S.size : Int) = (E : Int) := by omega
        have hoff : p + off r = E + skp false (l.drop E) := by
          unfold off
          rw [hE, hSs, hr, List.drop_drop]
          omega
        have hlow : p < E := by have := er_ln he; omega
        have hoffl := off_le r
        rw [hcs]
        simp only [List.toArray]
        have HCS := hidden hcs
        have HR := hidden hr
        have HER := hidden he
        have HOFF := hidden hoff
        have HOFFL : Hid (E + skp false (l.drop E) ≤ s.size) := by show E + skp false (l.drop E) ≤ s.size; omega
        have HB1 := hidden hb
        clear hk hS hN hcs hlr hrl hSs hE hr he hoff hoffl hb
        go_wp2_with fail
        refine wp_veil ?_
        obtain ⟨W2, hW2⟩ : ∃ W2, W2 = w1.alloc (.cells #[.int .i64 (k : Int), .string S, .int .i64 (N : Int), .int .i64 (p : Int)] 49) := ⟨_, rfl⟩
        obtain ⟨g, hg⟩ : ∃ g, g = w1.heap.size := ⟨_, rfl⟩
        have HG : Hid (Held W2 g 49 #[.int .i64 (k : Int), .string S, .int .i64 (N : Int), .int .i64 (p : Int)]) := by rw [hW2, hg]; exact Held.new _ _ _
        have HB2 : Hid (Below wr.heap.size wr W2) := by rw [hW2]; exact HB1.out.alloc HB1.out.size _
        have HGR : Hid (wr.heap.size ≤ g) := by show wr.heap.size ≤ g; rw [hg]; exact HB1.out.size
        have HV2 := hidden (hV.out.quiet HB2.out)
        rw [← hW2, ← hg]
        clear hW2 hg HB1
        go_wp2_with fail
        refine wp_veil ?_
        have b0 : W2.cell? ⟨g, 0, none⟩ = some (.int .i64 (k : Int)) := HG.out.at_ rfl
        have b1 : W2.cell? ⟨g, 1, none⟩ = some (.string S) := HG.out.at_ rfl
        have b2 : W2.cell? ⟨g, 2, none⟩ = some (.int .i64 (N : Int)) := HG.out.at_ rfl
        have b3 : W2.cell? ⟨g, 3, none⟩ = some (.int .i64 (p : Int)) := HG.out.at_ rfl
        go_wp2_with (at_builtin; refine wpList_push_kept rfl (.tmp 31) (.tmp 33) 33 49 (.agg #[.int .i64 0, .string ⟨#[]⟩, .int .i64 0, .int .i64 0]) 4 40 Tryz.underlying33 infoTok rfl (by decide) (by decide) rfl W W2 _ n (tkCells L) [.int .i64 (k : Int), .string S, .int .i64 (N : Int), .int .i64 (p : Int)] _ rfl rfl HV2.out (by omega) rfl rfl (by intro u hu; simp at hu; rcases hu with rfl | rfl | rfl | rfl <;> rfl) ?_; intro v1 w3 hN3 hkeep)
        refine wp_veil ?_
        have HN3 := hidden hN3
        have HG3 : Hid (Held w3 g 49 #[.int .i64 (k : Int), .string S, .int .i64 (N : Int), .int .i64 (p : Int)]) := by
          refine HG.out.block (hkeep g HG.out.lt ?_)
          intro e
          have := hV.out.lt g e
          have := HGR.out
          omega
        clear b0 b1 b2 b3 hN3 hkeep HG
        have b1 : w3.cell? ⟨g, 1, none⟩ = some (.string S) := HG3.out.at_ rfl
        go_wp2_with fail
        refine wp_veil ?_
        go_wp2_with fail
        refine (refSkip_any (s.extract E s.size) w3 (by rw [ByteArray.size_extract]; omega)).mono ?_
        rintro e w4 ⟨rfl, hw4⟩
        rw [hw4, ext_drop HL.out E]; clear hw4 w4
        have hofl := HOFFL.out
        obtain ⟨y, hy⟩ : ∃ y, y = skp false (l.drop E) := ⟨_, rfl⟩
        rw [← hy] at hofl ⊢
        have HY := hidden hy
        clear hy
        go_wp2_with fail
        go_roundw
        case rel =>
          refine ⟨E + y, n + 1, L ++ [tk r p], hofl, by omega, by go_num, ?_, ?_, ?_⟩
          · show n + 1 = (L ++ [tk r p]).length
            rw [List.length_append, ← hn.out]
            rfl
          · show From l (L ++ [tk r p]) (E + y)
            have := hF.out.next hpl.out (by rw [← HR.out]; exact HER.out)
            rw [← HR.out, HOFF.out, ← HY.out] at this
            exact this
          · show Vals _ 4 W w3 v1 (n + 1) (tkCells (L ++ [tk r p]))
            rw [tkCells_snoc, HCS.out]
            exact HN3.out
        case measure => simp [intOf]; omega
      · obtain ⟨x, hx⟩ : ∃ x, x = er r := ⟨_, rfl⟩
        rw [← hx] at he ⊢
        have hx0 : ((x : Int) != 0) = true := by simp; omega
        have HX : Hid (T l 0 = .error (x, p)) := by
          show T l 0 = .error (x, p)
          rw [hx, hr]
          refine hF.out.bad hpl.out ?_
          rw [← hr, ← hx]
          exact he
        have HB1 := hidden hb
        clear hx hr he hb
        go_wp2_with fail
        refine wp_veil ?_
        obtain ⟨W2, hW2⟩ : ∃ W2, W2 = w1.alloc (.cells #[.int .i64 0, .string ⟨#[]⟩, .int .i64 0, .int .i64 0] 49) := ⟨_, rfl⟩
        have HB2 : Hid (Below wr.heap.size wr W2) := by rw [hW2]; exact HB1.out.alloc HB1.out.size _
        rw [← hW2]
        clear hW2 HB1
        have HBW : Hid (Below W.heap.size W W2) := below_next hV.out.2 HB2.out
        have HH2 : Hid (Held W2 A 26 #[.int .i64 0, .int .i64 0]) := HH.out.since HBW.out
        have a0 : W2.cell? ⟨A, 0, none⟩ = some (.int .i64 0) := HH2.out.at_ rfl
        have a1 : W2.cell? ⟨A, 1, none⟩ = some (.int .i64 0) := HH2.out.at_ rfl
        have z0 := HH2.out.frozen 0
        have z1 := HH2.out.frozen 1
        go_wp2_with fail
        obtain ⟨W', hW'⟩ : ∃ W', W' = (W2.setCell ⟨A, 0, none⟩ (.int .i64 (x : Int))).setCell ⟨A, 1, none⟩ (.int .i64 (p : Int)) := ⟨_, rfl⟩
        have hH : Held W' A 26 #[.int .i64 (x : Int), .int .i64 (p : Int)] := by rw [hW']; exact (HH2.out.set 0 _).set 1 _
        have hBel : Below w.heap.size w W' := by
          rw [hW']
          exact ((below_next HB.out HBW.out).setCell HA.out _).setCell HA.out _
        rw [← hW']
        have c0 : W'.cell? ⟨A, 0, none⟩ = some (.int .i64 (x : Int)) := hH.at_ rfl
        have c1 : W'.cell? ⟨A, 1, none⟩ = some (.int .i64 (p : Int)) := hH.at_ rfl
        clear hW' hH
        exact bodyPost_ret (v := .tuple #[.slice none 0 0, .agg #[.int .i64 (x : Int), .int .i64 (p : Int)]]) (by simp [results, Tryz.results15, go_sem, c0, c1]) rfl (.inr ⟨x, p, HX.out, rfl, hBel⟩)
    · obtain rfl : p = s.size := by omega
      have HX : Hid (T l 0 = .ok (L ++ [⟨0, [], 0, s.size⟩])) := hF.out.done HLEN.out.symm
      go_wp2_with fail
      refine wp_veil ?_
      go_wp2_with (at_builtin; refine wpList_push_kept rfl (.tmp 46) (.tmp 50) 33 49 (.agg #[.int .i64 0, .string ⟨#[]⟩, .int .i64 0, .int .i64 0]) 4 40 Tryz.underlying33 infoTok rfl (by decide) (by decide) rfl W wr _ n (tkCells L) [.int .i64 0, .string ⟨#[]⟩, .int .i64 0, .int .i64 (s.size : Int)] _ rfl rfl hV.out (by omega) rfl rfl (by intro u hu; simp at hu; rcases hu with rfl | rfl | rfl | rfl <;> rfl) ?_; intro v1 w3 hN3 hkeep; have HN3 := hidden hN3; clear hN3 hkeep; have HH3 : Hid (Held w3 A 26 #[.int .i64 0, .int .i64 0]) := HH.out.since HN3.out.2; have a0 : w3.cell? ⟨A, 0, none⟩ = some (.int .i64 0) := HH3.out.at_ rfl; have a1 : w3.cell? ⟨A, 1, none⟩ = some (.int .i64 0) := HH3.out.at_ rfl; have z0 := HH3.out.frozen 0; have z1 := HH3.out.frozen 1)
      obtain ⟨W', hW'⟩ : ∃ W', W' = (w3.setCell ⟨A, 0, none⟩ (.int .i64 0)).setCell ⟨A, 1, none⟩ (.int .i64 0) := ⟨_, rfl⟩
      have hH : Held W' A 26 #[.int .i64 0, .int .i64 0] := by rw [hW']; exact (HH3.out.set 0 _).set 1 _
      have hBel : Below w.heap.size w W' := by
        rw [hW']
        exact ((below_next HB.out HN3.out.2).setCell HA.out _).setCell HA.out _
      have hVV : Vals 49 4 w W' v1 (n + 1) (tkCells (L ++ [⟨0, [], 0, s.size⟩])) := by
        rw [tkCells_snoc]
        refine HN3.out.apart HB.out ?_ hBel
        intro k hk
        have hlt := HH.out.lt
        have hne : k ≠ A := by omega
        rw [hW', Below.heap_setCell _ _ _ _ hne, Below.heap_setCell _ _ _ _ hne]
      rw [← hW']
      have c0 : W'.cell? ⟨A, 0, none⟩ = some (.int .i64 0) := hH.at_ rfl
      have c1 : W'.cell? ⟨A, 1, none⟩ = some (.int .i64 0) := hH.at_ rfl
      clear hW' hH
      have hln : (L ++ [(⟨0, [], 0, s.size⟩ : Tk)]).length = n + 1 := by rw [List.length_append, ← hn.out]; rfl
      exact bodyPost_ret (v := .tuple #[v1, .agg #[.int .i64 0, .int .i64 0]]) (by simp [results, Tryz.results15, go_sem, c0, c1]) rfl (.inl ⟨_, v1, HX.out, rfl, by rw [hln]; exact hVV⟩)
end Go.Proofs.YtagacfcpepoaoaaGreatDoor
