/- The walk through ExprDeep. -/
import Derived.Test.YtnmeijcaaohnpaaDoorExprWorks
import Derived.Test.YtnmeijcaaohnpaaDoorExprDeep
namespace Go.Proofs.YtnmeijcaaohnpaaDoor
open Go.RowKit
set_option linter.unusedVariables false

/-- n times 'x+', 'x[' -/
def xps : Nat → List UInt8
  | 0 => []
  | j + 1 => xps j ++ [120, 43]
def xis : Nat → List UInt8
  | 0 => []
  | j + 1 => xis j ++ [120, 91]
theorem xps_all : ∀ (j : Nat) (Z : List UInt8), xps j ++ 120 :: Z = 120 :: (pls j ++ Z)
  | 0, Z => rfl
  | j + 1, Z => by
    show xps j ++ [120, 43] ++ 120 :: Z = _
    rw [List.append_assoc]
    show xps j ++ 120 :: (43 :: 120 :: Z) = _
    rw [xps_all j]
    have : ∀ (i : Nat) (Z : List UInt8), pls i ++ 43 :: 120 :: Z = 43 :: 120 :: (pls i ++ Z) := by
      intro i
      induction i with
      | zero => intro Z; rfl
      | succ i ih => intro Z; show 43 :: 120 :: (pls i ++ 43 :: 120 :: Z) = _; rw [ih]; rfl
    rw [this]
    rfl
theorem xis_all : ∀ (j : Nat) (Z : List UInt8), xis j ++ Z = xbs j Z
  | 0, Z => rfl
  | j + 1, Z => by
    show xis j ++ [120, 91] ++ Z = _
    rw [List.append_assoc, xis_all j]
    have : ∀ (i : Nat) (Z : List UInt8), xbs i (120 :: 91 :: Z) = 120 :: 91 :: xbs i Z := by
      intro i
      induction i with
      | zero => intro Z; rfl
      | succ i ih => intro Z; show 120 :: 91 :: xbs i (120 :: 91 :: Z) = _; rw [ih]; rfl
    exact this j Z
theorem apart_rep {c : UInt8} (hc : plainC c = true) (h0 : c ≠ 120) : ∀ (n : Nat) (Z : List UInt8), apartB Z = true → apartB (rep c n ++ Z) = true
  | 0, Z, h => h
  | n + 1, Z, h => by
    show (plainC c && (c != 120 || (rep c n ++ Z).headD 0 != 120) && apartB (rep c n ++ Z)) = true
    rw [hc, apart_rep hc h0 n Z h, show (c != 120) = true from bne_iff_ne.2 h0]
    rfl
theorem apart_x {Z : List UInt8} (h : apartB Z = true) (h0 : Z.headD 0 ≠ 120) : apartB (120 :: Z) = true := by
  show (plainC 120 && ((120 : UInt8) != 120 || Z.headD 0 != 120) && apartB Z) = true
  rw [h, show (Z.headD 0 != 120) = true from bne_iff_ne.2 h0]
  rfl
theorem rep_last (c : UInt8) (n : Nat) : rep c (n + 1) = rep c n ++ [c] := by have := rep_snoc c n []; rw [List.append_nil] at this; exact this
theorem rep_head {c : UInt8} (h0 : c ≠ 120) (n : Nat) : (rep c n ++ []).headD 0 ≠ 120 := by
  cases n with
  | zero => show (0 : UInt8) ≠ 120; decide
  | succ n => exact h0
theorem apart_pls : ∀ n, apartB (120 :: pls n) = true
  | 0 => rfl
  | n + 1 => by
    have ih := apart_pls n
    show (plainC 120 && ((120 : UInt8) != 120 || (43 : UInt8) != 120) && (plainC 43 && ((43 : UInt8) != 120 || (120 : UInt8) != 120) && apartB (120 :: pls n))) = true
    rw [ih]
    rfl
theorem apart_xbs {Z : List UInt8} (h : apartB Z = true) : ∀ n, apartB (xbs n Z) = true
  | 0 => h
  | n + 1 => by
    have ih := apart_xbs h n
    show (plainC 120 && ((120 : UInt8) != 120 || (91 : UInt8) != 120) && (plainC 91 && ((91 : UInt8) != 120 || (xbs n Z).headD 0 != 120) && apartB (xbs n Z))) = true
    rw [ih]
    rfl
/-- the text of each kind, and what is read of it -/
def dtext (K n : Nat) : List UInt8 := match K with
  | 0 => rep 40 n ++ 120 :: rep 41 n
  | 1 => rep 45 n ++ [120]
  | 2 => xps n ++ [120]
  | _ => xis n ++ 120 :: rep 93 n
theorem dtext_plain (K n : Nat) : apartB (dtext K n) = true := by
  match K with
  | 0 => exact apart_rep rfl (by decide) n _ (apart_x (by have := apart_rep (c := 41) rfl (by decide) n [] rfl; rw [List.append_nil] at this; exact this) (by have := rep_head (c := 41) (by decide) n; rw [List.append_nil] at this; exact this))
  | 1 => exact apart_rep rfl (by decide) n _ rfl
  | 2 =>
    show apartB (xps n ++ [120]) = true
    rw [xps_all n, List.append_nil]
    exact apart_pls n
  | k + 3 =>
    show apartB (xis n ++ 120 :: rep 93 n) = true
    rw [xis_all]
    exact apart_xbs (apart_x (by have := apart_rep (c := 93) rfl (by decide) n [] rfl; rw [List.append_nil] at this; exact this) (by have := rep_head (c := 93) (by decide) n; rw [List.append_nil] at this; exact this)) n
theorem dtext_ok (K n : Nat) (hn : n ≤ (if K = 0 then 200 else 199)) : ∃ o r, Reads (.chain 0) 0 ⟨toks (dtext K n) 0, [], []⟩ o ∧ parsed o = .ok r := by
  match K, hn with
  | 0, hn =>
    obtain ⟨k, q, l', h', r⟩ := br_ok n 0 0 [] [] [] (by simp at hn; omega) (.inl rfl)
    rw [List.append_nil] at r
    exact ⟨_, _, r, rfl⟩
  | 1, hn =>
    obtain ⟨k, q, l', h', r, _⟩ := mi_ok n 0 0 [] [] (by simp at hn; omega) (by simp at hn; omega) rfl
    exact ⟨_, _, up0 r (clos_op (.inl rfl)), rfl⟩
  | 2, hn =>
    have e : dtext 2 n = 120 :: pls n := by show xps n ++ [120] = _; rw [xps_all, List.append_nil]
    rw [e]
    obtain ⟨e1, e2, e3⟩ := pls_head n (p := 1) (l := []) (h := [])
    have hr := up4 (d := 0) (leaf_front (p := 0) (l := []) (h := []) (pls n) e1 e2) e3
    obtain ⟨k, q, l', h', r⟩ := (pl_all n 1 0 [En 4 [] 0 ⟨#[120]⟩ ((0 : Nat) : Int)] [1] rfl (by decide) (by decide) (by decide)).1 (by show 1 + n ≤ 200; simp at hn; omega)
    have hz : ∀ lv, lv < 5 → opAt lv (st [] q l' h').tok = none := clos_op (.inl rfl)
    exact ⟨_, _, .chain (by decide) (.chain (by decide) (.chain (by decide) (.chain (by decide) hr r) (.loop_end (hz 2 (by omega)))) (.loop_end (hz 1 (by omega)))) (.loop_end (hz 0 (by omega))), rfl⟩
  | k + 3, hn =>
    have e : dtext (k + 3) n = xbs n (120 :: (rep 93 n ++ [])) := by show xis n ++ 120 :: rep 93 n = _; rw [xis_all, List.append_nil]
    rw [e]
    obtain ⟨k, q, l', h', r, _⟩ := (ix_all n 0 0 [] [] [] (by omega) (.inl rfl) rfl).1 (by simp at hn; omega) (by simp at hn; omega)
    exact ⟨_, _, r, rfl⟩
theorem dtext_no (K n : Nat) (hn : (if K = 0 then 200 else 199) < n) : ∃ o q, Reads (.chain 0) 0 ⟨toks (dtext K n) 0, [], []⟩ o ∧ parsed o = .error (4, q) := by
  match K, hn with
  | 0, hn =>
    obtain ⟨q, r⟩ := br_no n 0 0 (120 :: rep 41 n) [] [] (by omega) (by simp at hn; omega)
    exact ⟨_, _, r, rfl⟩
  | 1, hn =>
    obtain ⟨q, r⟩ := mi_no n 0 0 [] [] (by omega) (by simp at hn; omega) rfl
    exact ⟨_, _, up_err r, rfl⟩
  | 2, hn =>
    have e : dtext 2 n = 120 :: pls n := by show xps n ++ [120] = _; rw [xps_all, List.append_nil]
    rw [e]
    obtain ⟨e1, e2, e3⟩ := pls_head n (p := 1) (l := []) (h := [])
    have hr := up4 (d := 0) (leaf_front (p := 0) (l := []) (h := []) (pls n) e1 e2) e3
    obtain ⟨q, r⟩ := (pl_all n 1 0 [En 4 [] 0 ⟨#[120]⟩ ((0 : Nat) : Int)] [1] rfl (by decide) (by decide) (by decide)).2 (by show 200 < 1 + n; simp at hn; omega)
    exact ⟨_, q, .chain_err (by decide) (.chain_err (by decide) (.chain_err (by decide) (.chain (by decide) hr r))), rfl⟩
  | k + 3, hn =>
    have e : dtext (k + 3) n = xbs n (120 :: (rep 93 n ++ [])) := by show xis n ++ 120 :: rep 93 n = _; rw [xis_all, List.append_nil]
    rw [e]
    obtain ⟨q, r⟩ := (ix_all n 0 0 [] [] [] (by omega) (.inl rfl) rfl).2 (by simp at hn; omega)
    exact ⟨_, _, r, rfl⟩
theorem app_list {X : ByteArray} {l r : List UInt8} (h : X.data.toList = l) : (X ++ ⟨r.toArray⟩ : ByteArray).data.toList = l ++ r := by
  rw [ByteArray.data_append, Array.toList_append, h]
theorem app_two {X Y : ByteArray} {l r : List UInt8} (h : X.data.toList = l) (g : Y.data.toList = r) : (X ++ Y : ByteArray).data.toList = l ++ r := by
  rw [ByteArray.data_append, Array.toList_append, h, g]

set_option maxRecDepth 100000 in
set_option maxHeartbeats 4000000 in
theorem deep_0 (kn bn : Nat) (w : World) (hX : XTabs w) (hkn : kn < 256) (hb : bn < 256) (hK : (kn : Int) % 4 = 0) :
    Calls Tryd.prog 5 #[.int .u8 (kn : Int), .int .u8 (bn : Int)] w fun e w' => e = .returned (.bool true) ∧ Below w.heap.size w w' := by
  have HX := hidden hX
  have HX3 := hidden hX.size
  obtain ⟨m, hm⟩ : ∃ m, m = bn % 5 := ⟨_, rfl⟩
  have hm4 : m ≤ 4 := by omega
  have hm5 : (bn : Int) % 5 = (m : Int) := by omega
  clear hX hm
  go_enter Tryd.func5, Tryd.ntmps5
  rw [veil 19, veil 20, veil 21]
  go_wp2_with fail
  go_loop [6, 7, 8, 9] (fun a b c x => ∃ (i : Nat) (X Y : ByteArray), i ≤ 198 + m ∧ a = .string X ∧ b = .int .i64 200 ∧ c = .string Y ∧ x = .int .i64 (i : Int) ∧ X.size ≤ i ∧ Y.size ≤ i + 1 ∧ Hid (X.data.toList = rep 40 i) ∧ Hid (Y.data.toList = 120 :: rep 41 i)) (fun _ _ _ x => 198 + m - (intOf x).toNat)
  case atStart => exact ⟨0, ⟨#[]⟩, ⟨#[120]⟩, by omega, rfl, rfl, rfl, rfl, Nat.zero_le _, Nat.le_refl _, (show (#[] : Array UInt8).toList = _ from rfl), (show (#[120] : Array UInt8).toList = _ from rfl)⟩
  case round =>
    obtain ⟨i, X, Y, hi, rfl, rfl, rfl, rfl, hXs, hYs, hS, hE⟩ := hrel
    by_cases hlt : i < 198 + m
    · have hli : (i : Int) < 198 + (m : Int) := by omega
      go_wp2_with fail
      go_round
      case rel => exact ⟨i + 1, X ++ ⟨#[40]⟩, Y ++ ⟨#[41]⟩, by omega, rfl, by first | rfl | simp, rfl, by go_num, by (rw [ByteArray.size_append]; show X.size + 1 ≤ _; omega), by first | omega | (rw [ByteArray.size_append]; show Y.size + 1 ≤ _; omega), hidden ((app_list (r := [40]) hS.out).trans (rep_last 40 i).symm), hidden ((app_list (r := [41]) hE.out).trans (congrArg (List.cons 120) (rep_last 41 i).symm))⟩
      case measure => simp [intOf]; omega
    · have HI : Hid (i = 198 + m) := by show i = 198 + m; omega
      have hli : ¬ (i : Int) < 198 + (m : Int) := by omega
      have hmost : 200 = (200 : Int) := by first | rfl | (rw [if_neg (by omega)])
      rw [hmost]
      have HT : Hid ((X ++ Y).data.toList = dtext 0 (198 + m)) := by show _ = _; rw [← HI.out]; exact app_two hS.out hE.out
      have hsz : (X ++ Y).size ≤ 1000 := by rw [ByteArray.size_append]; omega
      have HTT : Hid (T (X ++ Y).data.toList 0 = .ok (toks (dtext 0 (198 + m)) 0)) := by show _ = _; rw [HT.out]; exact T_plain (dtext_plain 0 (198 + m))
      have HSZ : Hid ((X ++ Y).data.toList.length ≤ 65536) := by show (X ++ Y).data.toList.length ≤ 65536; rw [length_of]; omega
      clear hS hE hmost
      go_wp2_with fail
      refine wp_veil ?_
      go_wp2_with fail
      refine (tokens_ok (X ++ Y) w (by omega) HTT.out).mono ?_
      rintro e w1 ⟨v1, rfl, hV1⟩
      have HV1 := hidden hV1
      clear hV1
      go_wp2_with fail
      refine wp_veil ?_
      obtain ⟨W1, hW1⟩ : ∃ W1, W1 = w1.alloc (.cells #[.int .i64 0, .int .i64 0] 26) := ⟨_, rfl⟩
      have HVW := hidden (HV1.out.quiet ((Below.refl _ _).alloc (Nat.le_refl w1.heap.size) (.cells #[.int .i64 0, .int .i64 0] 26)))
      rw [← hW1] at HVW ⊢
      clear hW1 HV1
      have HX1 : Hid (XTabs W1) := HX.out.keep (fun k hk => HVW.out.2.block k (by have := HX3.out; omega))
      by_cases hmo : 198 + m ≤ 200
      · obtain ⟨o, r, hr, hp⟩ := dtext_ok 0 (198 + m) (by simp; omega)
        have HC := hidden (parse_yes HTT.out HSZ.out HVW.out HX1.out hr hp)
        have HRR : Hid (Rt r) := (parsed_ok (T_isTk HTT.out) (T_len HTT.out).1 hr hp).right
        have HRL : Hid (r.length ≤ 100000) := by
          show r.length ≤ 100000
          have h1 := hr
          cases o with
          | error f => cases hp
          | ok y =>
            obtain ⟨ps, s'⟩ := y
            have hsl := hr.slack.1
            have he : r = s'.l := by
              have hp' : (if s'.tok.kind = 0 then Except.ok s'.l else Except.error (8, s'.tok.place)) = (Except.ok r : Except Flt (List Nd)) := hp
              split at hp'
              · injection hp' with hp'; exact hp'.symm
              · cases hp'
            have hlen := (T_len HTT.out).2
            rw [length_of] at hlen
            rw [he]
            have e0 : ([] : List Nd).length = 0 := rfl
            simp only [e0] at hsl
            omega
        have hmi : (198 : Int) + (m : Int) ≤ 200 := by omega
        clear hr hp
        go_wp2_with fail
        refine HC.out.mono ?_
        rintro e w2 ⟨hb2, l', a, c, rfl, hN, hl'⟩
        have HB2 : Hid (Below w.heap.size w w2) := below_next HVW.out.2 hb2
        have HRT : Hid (Rt l') := bare_rt (by rw [hl']; exact HRR.out)
        have HLE : Hid (l'.length ≤ 100000) := by
          show l'.length ≤ 100000
          have := congrArg List.length hl'
          rw [List.length_map] at this
          have := HRL.out
          omega
        have HN2 := hidden hN
        clear hb2 hN hl' HC
        obtain ⟨nl, hnl⟩ : ∃ nl, nl = l'.length := ⟨_, rfl⟩
        rw [← hnl]
        have HNL := hidden hnl
        clear hnl
        go_wp2_with fail
        refine wp_veil ?_
        obtain ⟨W2, hW2⟩ : ∃ W2, W2 = w2.alloc (.cells #[.int .i64 0, .int .i64 0] 26) := ⟨_, rfl⟩
        obtain ⟨F, hF⟩ : ∃ F, F = w2.heap.size := ⟨_, rfl⟩
        have HF : Hid (Held W2 F 26 #[.int .i64 0, .int .i64 0]) := by rw [hW2, hF]; exact Held.new _ _ _
        have hbn : Below w2.heap.size w2 W2 := by rw [hW2]; exact (Below.refl _ _).alloc (Nat.le_refl _) _
        replace HB2 := hidden (below_next HB2.out hbn)
        replace HN2 := hidden (HN2.out.below hbn)
        rw [← hW2, ← hF]
        clear hW2 hF hbn
        have c0 : W2.cell? ⟨F, 0, none⟩ = some (.int .i64 0) := HF.out.at_ rfl
        have c1 : W2.cell? ⟨F, 1, none⟩ = some (.int .i64 0) := HF.out.at_ rfl
        go_wp2_with fail
        refine (rright_any a c nl l' W2 HNL.out HN2.out (by rw [HNL.out]; exact HLE.out)).mono ?_
        rintro e w5 ⟨b, rfl, hiff, hb5⟩
        obtain rfl : b = true := hiff.2 HRT.out
        replace HB2 := hidden (below_next HB2.out hb5)
        clear hiff hb5 c0 c1
        go_wp2_with fail
        refine (works_any w5 (HX.out.keep (fun k hk => HB2.out.block k (by have := HX3.out; omega)))).mono ?_
        rintro e w6 ⟨rfl, hb6⟩
        replace HB2 := hidden (below_next HB2.out hb6)
        clear hb6
        go_wp2_with fail
        go_ret
        exact ⟨rfl, HB2.out⟩
      · obtain ⟨o, q, hr, hp⟩ := dtext_no 0 (198 + m) (by simp; omega)
        have HC := hidden (parse_no HTT.out HSZ.out HVW.out HX1.out hr hp)
        have hmi : ¬ (198 : Int) + (m : Int) ≤ 200 := by omega
        clear hr hp
        go_wp2_with fail
        refine HC.out.mono ?_
        rintro e w2 ⟨hb2, rfl⟩
        have HB2 : Hid (Below w.heap.size w w2) := below_next HVW.out.2 hb2
        clear hb2 HC
        go_wp2_with fail
        refine wp_veil ?_
        obtain ⟨W2, hW2⟩ : ∃ W2, W2 = w2.alloc (.cells #[.int .i64 ((4 : Nat) : Int), .int .i64 (q : Int)] 26) := ⟨_, rfl⟩
        obtain ⟨F, hF⟩ : ∃ F, F = w2.heap.size := ⟨_, rfl⟩
        have HF : Hid (Held W2 F 26 #[.int .i64 4, .int .i64 (q : Int)]) := by rw [hW2, hF]; exact Held.new _ _ _
        have hbn : Below w2.heap.size w2 W2 := by rw [hW2]; exact (Below.refl _ _).alloc (Nat.le_refl _) _
        replace HB2 := hidden (below_next HB2.out hbn)
        rw [← hF]
        first | rw [← hW2] | (have e4 : ((4 : Nat) : Int) = 4 := rfl; rw [e4] at hW2; rw [← hW2])
        clear hW2 hF hbn
        have c0 : W2.cell? ⟨F, 0, none⟩ = some (.int .i64 4) := HF.out.at_ rfl
        have c1 : W2.cell? ⟨F, 1, none⟩ = some (.int .i64 (q : Int)) := HF.out.at_ rfl
        go_wp2_with fail
        refine (works_any W2 (HX.out.keep (fun k hk => HB2.out.block k (by have := HX3.out; omega)))).mono ?_
        rintro e w6 ⟨rfl, hb6⟩
        replace HB2 := hidden (below_next HB2.out hb6)
        clear hb6
        go_wp2_with fail
        go_ret
        exact ⟨rfl, HB2.out⟩

set_option maxRecDepth 100000 in
set_option maxHeartbeats 4000000 in
theorem deep_1 (kn bn : Nat) (w : World) (hX : XTabs w) (hkn : kn < 256) (hb : bn < 256) (hK : (kn : Int) % 4 = 1) :
    Calls Tryd.prog 5 #[.int .u8 (kn : Int), .int .u8 (bn : Int)] w fun e w' => e = .returned (.bool true) ∧ Below w.heap.size w w' := by
  have HX := hidden hX
  have HX3 := hidden hX.size
  obtain ⟨m, hm⟩ : ∃ m, m = bn % 5 := ⟨_, rfl⟩
  have hm4 : m ≤ 4 := by omega
  have hm5 : (bn : Int) % 5 = (m : Int) := by omega
  clear hX hm
  go_enter Tryd.func5, Tryd.ntmps5
  rw [veil 19, veil 20, veil 21]
  go_wp2_with fail
  go_loop [6, 7, 8, 9] (fun a b c x => ∃ (i : Nat) (X Y : ByteArray), i ≤ 198 + m ∧ a = .string X ∧ b = .int .i64 (if i = 0 then 200 else 199) ∧ c = .string Y ∧ x = .int .i64 (i : Int) ∧ X.size ≤ i ∧ Y.size ≤ 1 ∧ Hid (X.data.toList = rep 45 i) ∧ Hid (Y.data.toList = [120])) (fun _ _ _ x => 198 + m - (intOf x).toNat)
  case atStart => exact ⟨0, ⟨#[]⟩, ⟨#[120]⟩, by omega, rfl, rfl, rfl, rfl, Nat.zero_le _, Nat.le_refl _, (show (#[] : Array UInt8).toList = _ from rfl), (show (#[120] : Array UInt8).toList = _ from rfl)⟩
  case round =>
    obtain ⟨i, X, Y, hi, rfl, rfl, rfl, rfl, hXs, hYs, hS, hE⟩ := hrel
    by_cases hlt : i < 198 + m
    · have hli : (i : Int) < 198 + (m : Int) := by omega
      go_wp2_with fail
      go_round
      case rel => exact ⟨i + 1, X ++ ⟨#[45]⟩, Y, by omega, rfl, by first | rfl | simp, rfl, by go_num, by (rw [ByteArray.size_append]; show X.size + 1 ≤ _; omega), by first | omega | (rw [ByteArray.size_append]; show Y.size + 1 ≤ _; omega), hidden ((app_list (r := [45]) hS.out).trans (rep_last 45 i).symm), hE.out⟩
      case measure => simp [intOf]; omega
    · have HI : Hid (i = 198 + m) := by show i = 198 + m; omega
      have hli : ¬ (i : Int) < 198 + (m : Int) := by omega
      have hmost : (if i = 0 then 200 else 199) = (199 : Int) := by first | rfl | (rw [if_neg (by omega)])
      rw [hmost]
      have HT : Hid ((X ++ Y).data.toList = dtext 1 (198 + m)) := by show _ = _; rw [← HI.out]; exact app_two hS.out hE.out
      have hsz : (X ++ Y).size ≤ 1000 := by rw [ByteArray.size_append]; omega
      have HTT : Hid (T (X ++ Y).data.toList 0 = .ok (toks (dtext 1 (198 + m)) 0)) := by show _ = _; rw [HT.out]; exact T_plain (dtext_plain 1 (198 + m))
      have HSZ : Hid ((X ++ Y).data.toList.length ≤ 65536) := by show (X ++ Y).data.toList.length ≤ 65536; rw [length_of]; omega
      clear hS hE hmost
      go_wp2_with fail
      refine wp_veil ?_
      go_wp2_with fail
      refine (tokens_ok (X ++ Y) w (by omega) HTT.out).mono ?_
      rintro e w1 ⟨v1, rfl, hV1⟩
      have HV1 := hidden hV1
      clear hV1
      go_wp2_with fail
      refine wp_veil ?_
      obtain ⟨W1, hW1⟩ : ∃ W1, W1 = w1.alloc (.cells #[.int .i64 0, .int .i64 0] 26) := ⟨_, rfl⟩
      have HVW := hidden (HV1.out.quiet ((Below.refl _ _).alloc (Nat.le_refl w1.heap.size) (.cells #[.int .i64 0, .int .i64 0] 26)))
      rw [← hW1] at HVW ⊢
      clear hW1 HV1
      have HX1 : Hid (XTabs W1) := HX.out.keep (fun k hk => HVW.out.2.block k (by have := HX3.out; omega))
      by_cases hmo : 198 + m ≤ 199
      · obtain ⟨o, r, hr, hp⟩ := dtext_ok 1 (198 + m) (by simp; omega)
        have HC := hidden (parse_yes HTT.out HSZ.out HVW.out HX1.out hr hp)
        have HRR : Hid (Rt r) := (parsed_ok (T_isTk HTT.out) (T_len HTT.out).1 hr hp).right
        have HRL : Hid (r.length ≤ 100000) := by
          show r.length ≤ 100000
          have h1 := hr
          cases o with
          | error f => cases hp
          | ok y =>
            obtain ⟨ps, s'⟩ := y
            have hsl := hr.slack.1
            have he : r = s'.l := by
              have hp' : (if s'.tok.kind = 0 then Except.ok s'.l else Except.error (8, s'.tok.place)) = (Except.ok r : Except Flt (List Nd)) := hp
              split at hp'
              · injection hp' with hp'; exact hp'.symm
              · cases hp'
            have hlen := (T_len HTT.out).2
            rw [length_of] at hlen
            rw [he]
            have e0 : ([] : List Nd).length = 0 := rfl
            simp only [e0] at hsl
            omega
        have hmi : (198 : Int) + (m : Int) ≤ 199 := by omega
        clear hr hp
        go_wp2_with fail
        refine HC.out.mono ?_
        rintro e w2 ⟨hb2, l', a, c, rfl, hN, hl'⟩
        have HB2 : Hid (Below w.heap.size w w2) := below_next HVW.out.2 hb2
        have HRT : Hid (Rt l') := bare_rt (by rw [hl']; exact HRR.out)
        have HLE : Hid (l'.length ≤ 100000) := by
          show l'.length ≤ 100000
          have := congrArg List.length hl'
          rw [List.length_map] at this
          have := HRL.out
          omega
        have HN2 := hidden hN
        clear hb2 hN hl' HC
        obtain ⟨nl, hnl⟩ : ∃ nl, nl = l'.length := ⟨_, rfl⟩
        rw [← hnl]
        have HNL := hidden hnl
        clear hnl
        go_wp2_with fail
        refine wp_veil ?_
        obtain ⟨W2, hW2⟩ : ∃ W2, W2 = w2.alloc (.cells #[.int .i64 0, .int .i64 0] 26) := ⟨_, rfl⟩
        obtain ⟨F, hF⟩ : ∃ F, F = w2.heap.size := ⟨_, rfl⟩
        have HF : Hid (Held W2 F 26 #[.int .i64 0, .int .i64 0]) := by rw [hW2, hF]; exact Held.new _ _ _
        have hbn : Below w2.heap.size w2 W2 := by rw [hW2]; exact (Below.refl _ _).alloc (Nat.le_refl _) _
        replace HB2 := hidden (below_next HB2.out hbn)
        replace HN2 := hidden (HN2.out.below hbn)
        rw [← hW2, ← hF]
        clear hW2 hF hbn
        have c0 : W2.cell? ⟨F, 0, none⟩ = some (.int .i64 0) := HF.out.at_ rfl
        have c1 : W2.cell? ⟨F, 1, none⟩ = some (.int .i64 0) := HF.out.at_ rfl
        go_wp2_with fail
        refine (rright_any a c nl l' W2 HNL.out HN2.out (by rw [HNL.out]; exact HLE.out)).mono ?_
        rintro e w5 ⟨b, rfl, hiff, hb5⟩
        obtain rfl : b = true := hiff.2 HRT.out
        replace HB2 := hidden (below_next HB2.out hb5)
        clear hiff hb5 c0 c1
        go_wp2_with fail
        refine (works_any w5 (HX.out.keep (fun k hk => HB2.out.block k (by have := HX3.out; omega)))).mono ?_
        rintro e w6 ⟨rfl, hb6⟩
        replace HB2 := hidden (below_next HB2.out hb6)
        clear hb6
        go_wp2_with fail
        go_ret
        exact ⟨rfl, HB2.out⟩
      · obtain ⟨o, q, hr, hp⟩ := dtext_no 1 (198 + m) (by simp; omega)
        have HC := hidden (parse_no HTT.out HSZ.out HVW.out HX1.out hr hp)
        have hmi : ¬ (198 : Int) + (m : Int) ≤ 199 := by omega
        clear hr hp
        go_wp2_with fail
        refine HC.out.mono ?_
        rintro e w2 ⟨hb2, rfl⟩
        have HB2 : Hid (Below w.heap.size w w2) := below_next HVW.out.2 hb2
        clear hb2 HC
        go_wp2_with fail
        refine wp_veil ?_
        obtain ⟨W2, hW2⟩ : ∃ W2, W2 = w2.alloc (.cells #[.int .i64 ((4 : Nat) : Int), .int .i64 (q : Int)] 26) := ⟨_, rfl⟩
        obtain ⟨F, hF⟩ : ∃ F, F = w2.heap.size := ⟨_, rfl⟩
        have HF : Hid (Held W2 F 26 #[.int .i64 4, .int .i64 (q : Int)]) := by rw [hW2, hF]; exact Held.new _ _ _
        have hbn : Below w2.heap.size w2 W2 := by rw [hW2]; exact (Below.refl _ _).alloc (Nat.le_refl _) _
        replace HB2 := hidden (below_next HB2.out hbn)
        rw [← hF]
        first | rw [← hW2] | (have e4 : ((4 : Nat) : Int) = 4 := rfl; rw [e4] at hW2; rw [← hW2])
        clear hW2 hF hbn
        have c0 : W2.cell? ⟨F, 0, none⟩ = some (.int .i64 4) := HF.out.at_ rfl
        have c1 : W2.cell? ⟨F, 1, none⟩ = some (.int .i64 (q : Int)) := HF.out.at_ rfl
        go_wp2_with fail
        refine (works_any W2 (HX.out.keep (fun k hk => HB2.out.block k (by have := HX3.out; omega)))).mono ?_
        rintro e w6 ⟨rfl, hb6⟩
        replace HB2 := hidden (below_next HB2.out hb6)
        clear hb6
        go_wp2_with fail
        go_ret
        exact ⟨rfl, HB2.out⟩

set_option maxRecDepth 100000 in
set_option maxHeartbeats 4000000 in
theorem deep_2 (kn bn : Nat) (w : World) (hX : XTabs w) (hkn : kn < 256) (hb : bn < 256) (hK : (kn : Int) % 4 = 2) :
    Calls Tryd.prog 5 #[.int .u8 (kn : Int), .int .u8 (bn : Int)] w fun e w' => e = .returned (.bool true) ∧ Below w.heap.size w w' := by
  have HX := hidden hX
  have HX3 := hidden hX.size
  obtain ⟨m, hm⟩ : ∃ m, m = bn % 5 := ⟨_, rfl⟩
  have hm4 : m ≤ 4 := by omega
  have hm5 : (bn : Int) % 5 = (m : Int) := by omega
  clear hX hm
  go_enter Tryd.func5, Tryd.ntmps5
  rw [veil 19, veil 20, veil 21]
  go_wp2_with fail
  go_loop [6, 7, 8, 9] (fun a b c x => ∃ (i : Nat) (X Y : ByteArray), i ≤ 198 + m ∧ a = .string X ∧ b = .int .i64 (if i = 0 then 200 else 199) ∧ c = .string Y ∧ x = .int .i64 (i : Int) ∧ X.size ≤ 2 * i ∧ Y.size ≤ 1 ∧ Hid (X.data.toList = xps i) ∧ Hid (Y.data.toList = [120])) (fun _ _ _ x => 198 + m - (intOf x).toNat)
  case atStart => exact ⟨0, ⟨#[]⟩, ⟨#[120]⟩, by omega, rfl, rfl, rfl, rfl, Nat.zero_le _, Nat.le_refl _, (show (#[] : Array UInt8).toList = _ from rfl), (show (#[120] : Array UInt8).toList = _ from rfl)⟩
  case round =>
    obtain ⟨i, X, Y, hi, rfl, rfl, rfl, rfl, hXs, hYs, hS, hE⟩ := hrel
    by_cases hlt : i < 198 + m
    · have hli : (i : Int) < 198 + (m : Int) := by omega
      go_wp2_with fail
      go_round
      case rel => exact ⟨i + 1, X ++ ⟨#[120, 43]⟩, Y, by omega, rfl, by first | rfl | simp, rfl, by go_num, by (rw [ByteArray.size_append]; show X.size + 2 ≤ _; omega), by first | omega | (rw [ByteArray.size_append]; show Y.size + 1 ≤ _; omega), hidden (app_list (r := [120, 43]) hS.out), hE.out⟩
      case measure => simp [intOf]; omega
    · have HI : Hid (i = 198 + m) := by show i = 198 + m; omega
      have hli : ¬ (i : Int) < 198 + (m : Int) := by omega
      have hmost : (if i = 0 then 200 else 199) = (199 : Int) := by first | rfl | (rw [if_neg (by omega)])
      rw [hmost]
      have HT : Hid ((X ++ Y).data.toList = dtext 2 (198 + m)) := by show _ = _; rw [← HI.out]; exact app_two hS.out hE.out
      have hsz : (X ++ Y).size ≤ 1000 := by rw [ByteArray.size_append]; omega
      have HTT : Hid (T (X ++ Y).data.toList 0 = .ok (toks (dtext 2 (198 + m)) 0)) := by show _ = _; rw [HT.out]; exact T_plain (dtext_plain 2 (198 + m))
      have HSZ : Hid ((X ++ Y).data.toList.length ≤ 65536) := by show (X ++ Y).data.toList.length ≤ 65536; rw [length_of]; omega
      clear hS hE hmost
      go_wp2_with fail
      refine wp_veil ?_
      go_wp2_with fail
      refine (tokens_ok (X ++ Y) w (by omega) HTT.out).mono ?_
      rintro e w1 ⟨v1, rfl, hV1⟩
      have HV1 := hidden hV1
      clear hV1
      go_wp2_with fail
      refine wp_veil ?_
      obtain ⟨W1, hW1⟩ : ∃ W1, W1 = w1.alloc (.cells #[.int .i64 0, .int .i64 0] 26) := ⟨_, rfl⟩
      have HVW := hidden (HV1.out.quiet ((Below.refl _ _).alloc (Nat.le_refl w1.heap.size) (.cells #[.int .i64 0, .int .i64 0] 26)))
      rw [← hW1] at HVW ⊢
      clear hW1 HV1
      have HX1 : Hid (XTabs W1) := HX.out.keep (fun k hk => HVW.out.2.block k (by have := HX3.out; omega))
      by_cases hmo : 198 + m ≤ 199
      · obtain ⟨o, r, hr, hp⟩ := dtext_ok 2 (198 + m) (by simp; omega)
        have HC := hidden (parse_yes HTT.out HSZ.out HVW.out HX1.out hr hp)
        have HRR : Hid (Rt r) := (parsed_ok (T_isTk HTT.out) (T_len HTT.out).1 hr hp).right
        have HRL : Hid (r.length ≤ 100000) := by
          show r.length ≤ 100000
          have h1 := hr
          cases o with
          | error f => cases hp
          | ok y =>
            obtain ⟨ps, s'⟩ := y
            have hsl := hr.slack.1
            have he : r = s'.l := by
              have hp' : (if s'.tok.kind = 0 then Except.ok s'.l else Except.error (8, s'.tok.place)) = (Except.ok r : Except Flt (List Nd)) := hp
              split at hp'
              · injection hp' with hp'; exact hp'.symm
              · cases hp'
            have hlen := (T_len HTT.out).2
            rw [length_of] at hlen
            rw [he]
            have e0 : ([] : List Nd).length = 0 := rfl
            simp only [e0] at hsl
            omega
        have hmi : (198 : Int) + (m : Int) ≤ 199 := by omega
        clear hr hp
        go_wp2_with fail
        refine HC.out.mono ?_
        rintro e w2 ⟨hb2, l', a, c, rfl, hN, hl'⟩
        have HB2 : Hid (Below w.heap.size w w2) := below_next HVW.out.2 hb2
        have HRT : Hid (Rt l') := bare_rt (by rw [hl']; exact HRR.out)
        have HLE : Hid (l'.length ≤ 100000) := by
          show l'.length ≤ 100000
          have := congrArg List.length hl'
          rw [List.length_map] at this
          have := HRL.out
          omega
        have HN2 := hidden hN
        clear hb2 hN hl' HC
        obtain ⟨nl, hnl⟩ : ∃ nl, nl = l'.length := ⟨_, rfl⟩
        rw [← hnl]
        have HNL := hidden hnl
        clear hnl
        go_wp2_with fail
        refine wp_veil ?_
        obtain ⟨W2, hW2⟩ : ∃ W2, W2 = w2.alloc (.cells #[.int .i64 0, .int .i64 0] 26) := ⟨_, rfl⟩
        obtain ⟨F, hF⟩ : ∃ F, F = w2.heap.size := ⟨_, rfl⟩
        have HF : Hid (Held W2 F 26 #[.int .i64 0, .int .i64 0]) := by rw [hW2, hF]; exact Held.new _ _ _
        have hbn : Below w2.heap.size w2 W2 := by rw [hW2]; exact (Below.refl _ _).alloc (Nat.le_refl _) _
        replace HB2 := hidden (below_next HB2.out hbn)
        replace HN2 := hidden (HN2.out.below hbn)
        rw [← hW2, ← hF]
        clear hW2 hF hbn
        have c0 : W2.cell? ⟨F, 0, none⟩ = some (.int .i64 0) := HF.out.at_ rfl
        have c1 : W2.cell? ⟨F, 1, none⟩ = some (.int .i64 0) := HF.out.at_ rfl
        go_wp2_with fail
        refine (rright_any a c nl l' W2 HNL.out HN2.out (by rw [HNL.out]; exact HLE.out)).mono ?_
        rintro e w5 ⟨b, rfl, hiff, hb5⟩
        obtain rfl : b = true := hiff.2 HRT.out
        replace HB2 := hidden (below_next HB2.out hb5)
        clear hiff hb5 c0 c1
        go_wp2_with fail
        refine (works_any w5 (HX.out.keep (fun k hk => HB2.out.block k (by have := HX3.out; omega)))).mono ?_
        rintro e w6 ⟨rfl, hb6⟩
        replace HB2 := hidden (below_next HB2.out hb6)
        clear hb6
        go_wp2_with fail
        go_ret
        exact ⟨rfl, HB2.out⟩
      · obtain ⟨o, q, hr, hp⟩ := dtext_no 2 (198 + m) (by simp; omega)
        have HC := hidden (parse_no HTT.out HSZ.out HVW.out HX1.out hr hp)
        have hmi : ¬ (198 : Int) + (m : Int) ≤ 199 := by omega
        clear hr hp
        go_wp2_with fail
        refine HC.out.mono ?_
        rintro e w2 ⟨hb2, rfl⟩
        have HB2 : Hid (Below w.heap.size w w2) := below_next HVW.out.2 hb2
        clear hb2 HC
        go_wp2_with fail
        refine wp_veil ?_
        obtain ⟨W2, hW2⟩ : ∃ W2, W2 = w2.alloc (.cells #[.int .i64 ((4 : Nat) : Int), .int .i64 (q : Int)] 26) := ⟨_, rfl⟩
        obtain ⟨F, hF⟩ : ∃ F, F = w2.heap.size := ⟨_, rfl⟩
        have HF : Hid (Held W2 F 26 #[.int .i64 4, .int .i64 (q : Int)]) := by rw [hW2, hF]; exact Held.new _ _ _
        have hbn : Below w2.heap.size w2 W2 := by rw [hW2]; exact (Below.refl _ _).alloc (Nat.le_refl _) _
        replace HB2 := hidden (below_next HB2.out hbn)
        rw [← hF]
        first | rw [← hW2] | (have e4 : ((4 : Nat) : Int) = 4 := rfl; rw [e4] at hW2; rw [← hW2])
        clear hW2 hF hbn
        have c0 : W2.cell? ⟨F, 0, none⟩ = some (.int .i64 4) := HF.out.at_ rfl
        have c1 : W2.cell? ⟨F, 1, none⟩ = some (.int .i64 (q : Int)) := HF.out.at_ rfl
        go_wp2_with fail
        refine (works_any W2 (HX.out.keep (fun k hk => HB2.out.block k (by have := HX3.out; omega)))).mono ?_
        rintro e w6 ⟨rfl, hb6⟩
        replace HB2 := hidden (below_next HB2.out hb6)
        clear hb6
        go_wp2_with fail
        go_ret
        exact ⟨rfl, HB2.out⟩

set_option maxRecDepth 100000 in
set_option maxHeartbeats 4000000 in
theorem deep_3 (kn bn : Nat) (w : World) (hX : XTabs w) (hkn : kn < 256) (hb : bn < 256) (hK : (kn : Int) % 4 = 3) :
    Calls Tryd.prog 5 #[.int .u8 (kn : Int), .int .u8 (bn : Int)] w fun e w' => e = .returned (.bool true) ∧ Below w.heap.size w w' := by
  have HX := hidden hX
  have HX3 := hidden hX.size
  obtain ⟨m, hm⟩ : ∃ m, m = bn % 5 := ⟨_, rfl⟩
  have hm4 : m ≤ 4 := by omega
  have hm5 : (bn : Int) % 5 = (m : Int) := by omega
  clear hX hm
  go_enter Tryd.func5, Tryd.ntmps5
  rw [veil 19, veil 20, veil 21]
  go_wp2_with fail
  go_loop [6, 7, 8, 9] (fun a b c x => ∃ (i : Nat) (X Y : ByteArray), i ≤ 198 + m ∧ a = .string X ∧ b = .int .i64 (if i = 0 then 200 else 199) ∧ c = .string Y ∧ x = .int .i64 (i : Int) ∧ X.size ≤ 2 * i ∧ Y.size ≤ i + 1 ∧ Hid (X.data.toList = xis i) ∧ Hid (Y.data.toList = 120 :: rep 93 i)) (fun _ _ _ x => 198 + m - (intOf x).toNat)
  case atStart => exact ⟨0, ⟨#[]⟩, ⟨#[120]⟩, by omega, rfl, rfl, rfl, rfl, Nat.zero_le _, Nat.le_refl _, (show (#[] : Array UInt8).toList = _ from rfl), (show (#[120] : Array UInt8).toList = _ from rfl)⟩
  case round =>
    obtain ⟨i, X, Y, hi, rfl, rfl, rfl, rfl, hXs, hYs, hS, hE⟩ := hrel
    by_cases hlt : i < 198 + m
    · have hli : (i : Int) < 198 + (m : Int) := by omega
      go_wp2_with fail
      go_round
      case rel => exact ⟨i + 1, X ++ ⟨#[120, 91]⟩, Y ++ ⟨#[93]⟩, by omega, rfl, by first | rfl | simp, rfl, by go_num, by (rw [ByteArray.size_append]; show X.size + 2 ≤ _; omega), by first | omega | (rw [ByteArray.size_append]; show Y.size + 1 ≤ _; omega), hidden (app_list (r := [120, 91]) hS.out), hidden ((app_list (r := [93]) hE.out).trans (congrArg (List.cons 120) (rep_last 93 i).symm))⟩
      case measure => simp [intOf]; omega
    · have HI : Hid (i = 198 + m) := by show i = 198 + m; omega
      have hli : ¬ (i : Int) < 198 + (m : Int) := by omega
      have hmost : (if i = 0 then 200 else 199) = (199 : Int) := by first | rfl | (rw [if_neg (by omega)])
      rw [hmost]
      have HT : Hid ((X ++ Y).data.toList = dtext 3 (198 + m)) := by show _ = _; rw [← HI.out]; exact app_two hS.out hE.out
      have hsz : (X ++ Y).size ≤ 1000 := by rw [ByteArray.size_append]; omega
      have HTT : Hid (T (X ++ Y).data.toList 0 = .ok (toks (dtext 3 (198 + m)) 0)) := by show _ = _; rw [HT.out]; exact T_plain (dtext_plain 3 (198 + m))
      have HSZ : Hid ((X ++ Y).data.toList.length ≤ 65536) := by show (X ++ Y).data.toList.length ≤ 65536; rw [length_of]; omega
      clear hS hE hmost
      go_wp2_with fail
      refine wp_veil ?_
      go_wp2_with fail
      refine (tokens_ok (X ++ Y) w (by omega) HTT.out).mono ?_
      rintro e w1 ⟨v1, rfl, hV1⟩
      have HV1 := hidden hV1
      clear hV1
      go_wp2_with fail
      refine wp_veil ?_
      obtain ⟨W1, hW1⟩ : ∃ W1, W1 = w1.alloc (.cells #[.int .i64 0, .int .i64 0] 26) := ⟨_, rfl⟩
      have HVW := hidden (HV1.out.quiet ((Below.refl _ _).alloc (Nat.le_refl w1.heap.size) (.cells #[.int .i64 0, .int .i64 0] 26)))
      rw [← hW1] at HVW ⊢
      clear hW1 HV1
      have HX1 : Hid (XTabs W1) := HX.out.keep (fun k hk => HVW.out.2.block k (by have := HX3.out; omega))
      by_cases hmo : 198 + m ≤ 199
      · obtain ⟨o, r, hr, hp⟩ := dtext_ok 3 (198 + m) (by simp; omega)
        have HC := hidden (parse_yes HTT.out HSZ.out HVW.out HX1.out hr hp)
        have HRR : Hid (Rt r) := (parsed_ok (T_isTk HTT.out) (T_len HTT.out).1 hr hp).right
        have HRL : Hid (r.length ≤ 100000) := by
          show r.length ≤ 100000
          have h1 := hr
          cases o with
          | error f => cases hp
          | ok y =>
            obtain ⟨ps, s'⟩ := y
            have hsl := hr.slack.1
            have he : r = s'.l := by
              have hp' : (if s'.tok.kind = 0 then Except.ok s'.l else Except.error (8, s'.tok.place)) = (Except.ok r : Except Flt (List Nd)) := hp
              split at hp'
              · injection hp' with hp'; exact hp'.symm
              · cases hp'
            have hlen := (T_len HTT.out).2
            rw [length_of] at hlen
            rw [he]
            have e0 : ([] : List Nd).length = 0 := rfl
            simp only [e0] at hsl
            omega
        have hmi : (198 : Int) + (m : Int) ≤ 199 := by omega
        clear hr hp
        go_wp2_with fail
        refine HC.out.mono ?_
        rintro e w2 ⟨hb2, l', a, c, rfl, hN, hl'⟩
        have HB2 : Hid (Below w.heap.size w w2) := below_next HVW.out.2 hb2
        have HRT : Hid (Rt l') := bare_rt (by rw [hl']; exact HRR.out)
        have HLE : Hid (l'.length ≤ 100000) := by
          show l'.length ≤ 100000
          have := congrArg List.length hl'
          rw [List.length_map] at this
          have := HRL.out
          omega
        have HN2 := hidden hN
        clear hb2 hN hl' HC
        obtain ⟨nl, hnl⟩ : ∃ nl, nl = l'.length := ⟨_, rfl⟩
        rw [← hnl]
        have HNL := hidden hnl
        clear hnl
        go_wp2_with fail
        refine wp_veil ?_
        obtain ⟨W2, hW2⟩ : ∃ W2, W2 = w2.alloc (.cells #[.int .i64 0, .int .i64 0] 26) := ⟨_, rfl⟩
        obtain ⟨F, hF⟩ : ∃ F, F = w2.heap.size := ⟨_, rfl⟩
        have HF : Hid (Held W2 F 26 #[.int .i64 0, .int .i64 0]) := by rw [hW2, hF]; exact Held.new _ _ _
        have hbn : Below w2.heap.size w2 W2 := by rw [hW2]; exact (Below.refl _ _).alloc (Nat.le_refl _) _
        replace HB2 := hidden (below_next HB2.out hbn)
        replace HN2 := hidden (HN2.out.below hbn)
        rw [← hW2, ← hF]
        clear hW2 hF hbn
        have c0 : W2.cell? ⟨F, 0, none⟩ = some (.int .i64 0) := HF.out.at_ rfl
        have c1 : W2.cell? ⟨F, 1, none⟩ = some (.int .i64 0) := HF.out.at_ rfl
        go_wp2_with fail
        refine (rright_any a c nl l' W2 HNL.out HN2.out (by rw [HNL.out]; exact HLE.out)).mono ?_
        rintro e w5 ⟨b, rfl, hiff, hb5⟩
        obtain rfl : b = true := hiff.2 HRT.out
        replace HB2 := hidden (below_next HB2.out hb5)
        clear hiff hb5 c0 c1
        go_wp2_with fail
        refine (works_any w5 (HX.out.keep (fun k hk => HB2.out.block k (by have := HX3.out; omega)))).mono ?_
        rintro e w6 ⟨rfl, hb6⟩
        replace HB2 := hidden (below_next HB2.out hb6)
        clear hb6
        go_wp2_with fail
        go_ret
        exact ⟨rfl, HB2.out⟩
      · obtain ⟨o, q, hr, hp⟩ := dtext_no 3 (198 + m) (by simp; omega)
        have HC := hidden (parse_no HTT.out HSZ.out HVW.out HX1.out hr hp)
        have hmi : ¬ (198 : Int) + (m : Int) ≤ 199 := by omega
        clear hr hp
        go_wp2_with fail
        refine HC.out.mono ?_
        rintro e w2 ⟨hb2, rfl⟩
        have HB2 : Hid (Below w.heap.size w w2) := below_next HVW.out.2 hb2
        clear hb2 HC
        go_wp2_with fail
        refine wp_veil ?_
        obtain ⟨W2, hW2⟩ : ∃ W2, W2 = w2.alloc (.cells #[.int .i64 ((4 : Nat) : Int), .int .i64 (q : Int)] 26) := ⟨_, rfl⟩
        obtain ⟨F, hF⟩ : ∃ F, F = w2.heap.size := ⟨_, rfl⟩
        have HF : Hid (Held W2 F 26 #[.int .i64 4, .int .i64 (q : Int)]) := by rw [hW2, hF]; exact Held.new _ _ _
        have hbn : Below w2.heap.size w2 W2 := by rw [hW2]; exact (Below.refl _ _).alloc (Nat.le_refl _) _
        replace HB2 := hidden (below_next HB2.out hbn)
        rw [← hF]
        first | rw [← hW2] | (have e4 : ((4 : Nat) : Int) = 4 := rfl; rw [e4] at hW2; rw [← hW2])
        clear hW2 hF hbn
        have c0 : W2.cell? ⟨F, 0, none⟩ = some (.int .i64 4) := HF.out.at_ rfl
        have c1 : W2.cell? ⟨F, 1, none⟩ = some (.int .i64 (q : Int)) := HF.out.at_ rfl
        go_wp2_with fail
        refine (works_any W2 (HX.out.keep (fun k hk => HB2.out.block k (by have := HX3.out; omega)))).mono ?_
        rintro e w6 ⟨rfl, hb6⟩
        replace HB2 := hidden (below_next HB2.out hb6)
        clear hb6
        go_wp2_with fail
        go_ret
        exact ⟨rfl, HB2.out⟩
end Go.Proofs.YtnmeijcaaohnpaaDoor
