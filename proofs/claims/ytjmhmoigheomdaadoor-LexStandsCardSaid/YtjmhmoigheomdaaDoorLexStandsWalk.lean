/- The walk through LexStands: over every text it answers true. -/
import Derived.Test.YtjmhmoigheomdaaDoorLexWorks
import Derived.Deep.QuietTactic
import Derived.BigQuiet
namespace Go.Proofs.YtjmhmoigheomdaaDoor
open Go.RowKit
set_option linter.unusedVariables false

/-- the tokens from k on stand behind a -/
def Stand (l : List UInt8) (L : List Tk) (k a : Nat) : Prop :=
  (k < L.length ∧ ∃ p, a ≤ p ∧ p ≤ l.length ∧ S (l.drop p) p = .ok (L.drop k) ∧ skp false (cut l a p) = p - a) ∨ (k = L.length ∧ a = l.length)
theorem skp_cut (l : List UInt8) (a : Nat) : skp false (cut l a (a + skp false (l.drop a))) = a + skp false (l.drop a) - a := by
  unfold cut
  rw [List.drop_take, show a + skp false (l.drop a) - a = skp false (l.drop a) by omega]
  exact skp_take false _
theorem Stand.start {l : List UInt8} {L : List Tk} (h : T l 0 = .ok L) : Stand l L 0 0 := by
  unfold T at h
  rw [Nat.zero_add] at h
  have hc := skp_cut l 0
  rw [Nat.zero_add, List.drop_zero] at hc
  exact .inl ⟨S_some h, skp false l, Nat.zero_le _, skp_le _ _, h, hc⟩
/-- what the token k is -/
structure Next (l : List UInt8) (L : List Tk) (k a : Nat) (t : Tk) : Prop where
  get : L[k]? = some t
  low : a ≤ t.place
  high : t.place + t.text.length ≤ l.length
  bytes : cut l t.place (t.place + t.text.length) = t.text
  blanks : skp false (cut l a t.place) = t.place - a
  last : (t.kind = 0 ∧ k + 1 = L.length ∧ t.text = []) ∨ (t.kind ≠ 0 ∧ k + 1 < L.length ∧ 0 < t.text.length)
  then_ : Stand l L (k + 1) (t.place + t.text.length)
theorem Stand.next {l : List UInt8} {L : List Tk} {k a : Nat} (h : Stand l L k a) (hk : k < L.length) : ∃ t, Next l L k a t := by
  rcases h with ⟨_, p, hap, hpl, hS, hB⟩ | ⟨e, _⟩
  · have hget : ∀ t M, L.drop k = t :: M → L[k]? = some t := by
      intro t M e
      have : (L.drop k)[0]? = some t := by rw [e]; rfl
      rw [List.getElem?_drop] at this
      exact this
    have hlen : (L.drop k).length = L.length - k := List.length_drop
    rcases S_cases hS with ⟨hr, hL⟩ | ⟨hr, he, M, hL, hM⟩
    · have hp : p = l.length := by
        have := congrArg List.length hr
        rw [List.length_drop] at this
        simp at this
        omega
      rw [hL] at hlen
      have hk1 : k + 1 = L.length := by simp at hlen; omega
      exact ⟨⟨0, [], 0, p⟩, hget _ _ hL, hap, by simp; omega, by simp [cut_none], hB, .inl ⟨rfl, hk1, rfl⟩, .inr ⟨hk1, by simp; omega⟩⟩
    · have h1 := S_some hM
      have h2 := ln_le (l.drop p)
      have h3 := er_ln he
      have h4 := off_le (l.drop p)
      rw [List.length_drop] at h2 h4
      rw [hL, List.length_cons] at hlen
      have hk1 : k + 1 < L.length := by omega
      have htl : (tk (l.drop p) p).text.length = ln (l.drop p) := by
        show ((l.drop p).take (ln (l.drop p))).length = _
        rw [List.length_take, List.length_drop]
        omega
      have hd : L.drop (k + 1) = M := by
        have : (L.drop k).drop 1 = M := by rw [hL]; rfl
        rw [List.drop_drop] at this
        exact this
      refine ⟨tk (l.drop p) p, hget _ _ hL, hap, ?_, ?_, hB, .inr ⟨kd_pos _ _, hk1, by rw [htl]; exact h3⟩, .inl ⟨hk1, p + off (l.drop p), ?_, ?_, ?_, ?_⟩⟩
      · rw [htl]; show p + _ ≤ _; omega
      · rw [htl]
        show cut l p (p + ln (l.drop p)) = (l.drop p).take (ln (l.drop p))
        unfold cut
        rw [List.drop_take, show p + ln (l.drop p) - p = ln (l.drop p) by omega]
      · rw [htl]; show p + _ ≤ _; unfold off; omega
      · omega
      · rw [hd, ← hM]
        unfold nxt
        rw [List.drop_drop]
      · rw [htl]
        have := skp_cut l (p + ln (l.drop p))
        show skp false (cut l (p + ln (l.drop p)) (p + off (l.drop p))) = p + off (l.drop p) - (p + ln (l.drop p))
        unfold off
        rw [List.drop_drop, ← Nat.add_assoc]
        exact this
  · omega
theorem wrap_small (n : Nat) (h : n ≤ 1000000) : IntKind.i64.wrap (n : Int) = (n : Int) := by rw [IntKind.wrap_i64]; omega
theorem stands_long (s : ByteArray) (w : World) (hT : Tab w) (hs : 300 < s.size) :
    Calls Tryd.prog 3 #[.string s] w fun e w' => e = .returned (.bool true) ∧ Below w.heap.size w w' := by
  have hs' : (300 : Int) < (s.size : Int) := by omega
  go_enter Tryd.func3, Tryd.ntmps3
  go_wp2_with fail
  refine (works_true w hT).mono ?_
  rintro e w1 ⟨rfl, hb⟩
  have HB := hidden hb
  clear hb
  go_wp2_with fail
  go_ret
  exact ⟨rfl, HB.out⟩
set_option maxRecDepth 100000 in
set_option maxHeartbeats 4000000 in
theorem stands_short (s : ByteArray) (w : World) (hT : Tab w) (hs : s.size ≤ 300) :
    Calls Tryd.prog 3 #[.string s] w fun e w' => e = .returned (.bool true) ∧ Below w.heap.size w w' := by
  obtain ⟨l, hl⟩ : ∃ l, l = s.data.toList := ⟨_, rfl⟩
  have hlen : l.length = s.size := by rw [hl]; exact Array.length_toList
  have HLEN := hidden hlen
  have HL := hidden hl
  have HT := hidden hT
  clear hl hlen hT
  go_enter Tryd.func3, Tryd.ntmps3
  rw [veil 4, veil 13]
  go_wp2_with fail
  refine (tokens_any s w HT.out (by omega)).mono ?_
  rintro e w1 hTold
  rw [← HL.out] at hTold
  rcases hTold with ⟨L, v, hL, rfl, hV⟩ | ⟨x, p, hx, rfl, hb⟩
  · have hl0 : 0 < L.length := by unfold T at hL; exact S_some hL
    have hl1 : L.length ≤ 301 := by
      unfold T at hL
      have := S_length hL
      rw [List.length_drop, HLEN.out] at this
      omega
    obtain ⟨g, cap, rfl, hc, hR⟩ := row_of hV hl0
    have HB1 := hidden hV.2
    obtain ⟨n, hn⟩ : ∃ n, n = L.length := ⟨_, rfl⟩
    rw [← hn] at hl0 hl1 hc ⊢
    have HN := hidden hn
    have HR := hidden hR
    have HS := hidden (Stand.start hL)
    clear hV hL hn hR
    go_wp2_with fail
    refine wp_veil ?_
    obtain ⟨W, hW⟩ : ∃ W, W = w1.alloc (.cells #[.int .i64 0, .int .i64 0] 26) := ⟨_, rfl⟩
    obtain ⟨f, hf⟩ : ∃ f, f = w1.heap.size := ⟨_, rfl⟩
    have hH : Held W f 26 #[.int .i64 0, .int .i64 0] := by rw [hW, hf]; exact Held.new _ _ _
    have hB1 : Below w1.heap.size w1 W := by rw [hW]; exact (Below.refl _ _).alloc (Nat.le_refl _) _
    have HBW := hidden (below_then HB1.out hB1)
    have HRW := hidden (HR.out.below hB1)
    rw [← hW, ← hf]
    have f0 : W.cell? ⟨f, 0, none⟩ = some (.int .i64 0) := hH.at_ rfl
    clear hW hf hH hB1 HR HB1
    go_wp2_with fail
    go_loopw [5, 6] (fun x i wr => ∃ k a : Nat, k ≤ n ∧ a ≤ s.size ∧ x = .int .i64 (a : Int) ∧ i = .int .i64 (k : Int) ∧ Hid (Stand l L k a) ∧ Hid (Row wr g L) ∧ Hid (Below w.heap.size w wr)) (fun _ i _ => n - (intOf i).toNat)
    case atStart => exact ⟨0, 0, Nat.zero_le _, Nat.zero_le _, rfl, rfl, HS, HRW, HBW⟩
    case round =>
      obtain ⟨k, a, hk, ha, rfl, rfl, hS, hR, hB⟩ := hrel
      clear f0 HS HRW HBW
      by_cases hlt : k < n
      · obtain ⟨t, hN⟩ := hS.out.next (by rw [← HN.out]; exact hlt)
        obtain ⟨K, hK⟩ : ∃ K, K = t.kind := ⟨_, rfl⟩
        obtain ⟨X, hX⟩ : ∃ X : ByteArray, X = ⟨t.text.toArray⟩ := ⟨_, rfl⟩
        obtain ⟨P, hP⟩ : ∃ P, P = t.place := ⟨_, rfl⟩
        obtain ⟨M, hM⟩ : ∃ M, M = t.n := ⟨_, rfl⟩
        have hXs : X.size = t.text.length := by rw [hX]; show t.text.toArray.size = _; rw [List.size_toArray]
        have c0 := hR.out.kind hN.get
        have c1 := hR.out.text hN.get
        have c2 := hR.out.num hN.get
        have c3 := hR.out.place hN.get
        rw [← hK] at c0
        rw [← hX] at c1
        rw [← hM] at c2
        rw [← hP] at c3
        have hki : (k : Int) < (n : Int) := by omega
        have HNX := hidden hN
        have HK := hidden hK
        have HX := hidden hX
        have HP := hidden hP
        have HXS := hidden hXs
        clear hN hK hX hP hM hXs
        have hPa : a ≤ P := by rw [HP.out]; exact HNX.out.low
        obtain ⟨E, hE⟩ : ∃ E, E = P + X.size := ⟨_, rfl⟩
        have hEs : E ≤ s.size := by rw [hE, HP.out, HXS.out, ← HLEN.out]; exact HNX.out.high
        obtain ⟨D, hD⟩ : ∃ D, D = P - a := ⟨_, rfl⟩
        have hex : Hid (s.extract P E = X) := by
          show s.extract P E = X
          rw [extract_cut, ← HL.out, hE, HXS.out, HP.out, HNX.out.bytes, HX.out]
        have hsk : Hid (∀ w' : World, Calls Tryd.prog 7 #[.string (s.extract a P)] w' fun e w'' => e = .returned (.int .i64 (D : Int)) ∧ w'' = w') := by
          intro w'
          refine (refSkip_any (s.extract a P) w' (by rw [ByteArray.size_extract]; omega)).mono ?_
          rintro e w'' ⟨rfl, h2⟩
          refine ⟨?_, h2⟩
          have h3 : (s.extract a P).data.toList = cut l a P := by rw [extract_cut, ← HL.out]
          rw [h3, HP.out, HNX.out.blanks, hD, HP.out]
        have hPE : P ≤ E := by omega
        have hPs : P ≤ s.size := by omega
        have hi1 : (P : Int) + (X.size : Int) = (E : Int) := by omega
        have hi2 : (P : Int) - (a : Int) = (D : Int) := by omega
        obtain ⟨R, hR3⟩ : ∃ R, R = s.size - P := ⟨_, rfl⟩
        have hi3 : (s.size : Int) - (P : Int) = (R : Int) := by omega
        have hwR := wrap_small R (by omega)
        have hwE := wrap_small E (by omega)
        have hwD := wrap_small D (by omega)
        have d1 : decide (P < a) = false := by simp; omega
        have d2 : decide (s.size < P) = false := by simp; omega
        have d3 : decide (R < X.size) = false := by simp; omega
        have hi1' : Hid ((P : Int) + (X.size : Int) = (E : Int)) := hi1
        have HE := hidden hE
        clear hE hD hR3
        go_wp2_with fail
        obtain ⟨W2, hW2⟩ : ∃ W2, W2 = wr.alloc (.cells #[.int .i64 (K : Int), .string X, .int .i64 (M : Int), .int .i64 (P : Int)] 30) := ⟨_, rfl⟩
        obtain ⟨b, hb⟩ : ∃ b, b = wr.heap.size := ⟨_, rfl⟩
        have HG : Hid (Held W2 b 30 #[.int .i64 (K : Int), .string X, .int .i64 (M : Int), .int .i64 (P : Int)]) := by rw [hW2, hb]; exact Held.new _ _ _
        have hB2 : Below wr.heap.size wr W2 := by rw [hW2]; exact (Below.refl _ _).alloc (Nat.le_refl _) _
        have HBW := hidden (below_then hB.out hB2)
        have HRW := hidden (hR.out.below hB2)
        rw [← hW2, ← hb]
        clear hW2 hb hB2 c0 c1 c2 c3
        have b0 : W2.cell? ⟨b, 0, none⟩ = some (.int .i64 (K : Int)) := HG.out.at_ rfl
        have b1 : W2.cell? ⟨b, 1, none⟩ = some (.string X) := HG.out.at_ rfl
        have b2 : W2.cell? ⟨b, 2, none⟩ = some (.int .i64 (M : Int)) := HG.out.at_ rfl
        have b3 : W2.cell? ⟨b, 3, none⟩ = some (.int .i64 (P : Int)) := HG.out.at_ rfl
        have hex' := hex.out
        go_quiet (first | (go_at_call 7; refine Calls.quiet_of_same (hsk.out _)))
        clear b0 b1 b2 b3 hex' hex hsk hi1 hi2 hi3 hwR hwE hwD d1 d2 d3 hPa hPs
        go_wp2_with fail
        refine wp_veil ?_
        obtain ⟨V, hV⟩ : ∃ V, V = W2.drewN nq := ⟨_, rfl⟩
        have HGV : Hid (Held V b 30 #[.int .i64 (K : Int), .string X, .int .i64 (M : Int), .int .i64 (P : Int)]) := by rw [hV]; exact HG.out.drewN _
        have hB2 : Below W2.heap.size W2 V := by rw [hV]; exact below_drewN _ _ _
        have HBV := hidden (below_then HBW.out hB2)
        have HRV := hidden (HRW.out.below hB2)
        rw [← hV]
        clear hV hB2 HBW HRW HG
        have b0 : V.cell? ⟨b, 0, none⟩ = some (.int .i64 (K : Int)) := HGV.out.at_ rfl
        have b1 : V.cell? ⟨b, 1, none⟩ = some (.string X) := HGV.out.at_ rfl
        have b3 : V.cell? ⟨b, 3, none⟩ = some (.int .i64 (P : Int)) := HGV.out.at_ rfl
        have HST : Hid (Stand l L (k + 1) E) := by
          show Stand l L (k + 1) E
          rw [HE.out, HXS.out, HP.out]
          exact HNX.out.then_
        rcases HNX.out.last with ⟨h1, h2, h3⟩ | ⟨h1, h2, h3⟩
        · obtain rfl : K = 0 := by rw [HK.out]; exact h1
          obtain rfl : X = ⟨#[]⟩ := by rw [HX.out, h3]
          have hkn : ((k : Int) == (n : Int) - 1) = true := by have := HN.out; simp; omega
          clear h1 h2 h3
          have hEP : Hid (E = P) := HE.out
          go_wp2_with fail
          go_roundw
          case rel => exact ⟨k + 1, E, by omega, hEs, by rw [hEP.out], by go_num, HST, HRV, HBV⟩
          case measure => simp [intOf]; omega
        · have hK0 : ((K : Int) == 0) = false := by have := HK.out; simp; omega
          have hkn : ((k : Int) == (n : Int) - 1) = false := by have := HN.out; simp; omega
          have hXe : X.toList.isEmpty = false := by
            rw [HX.out, ByteArray.toList_eq]
            show t.text.isEmpty = false
            rw [List.isEmpty_eq_false_iff]
            exact List.ne_nil_of_length_pos h3
          clear h1 h2 h3
          have hi1 := hi1'.out
          go_wp2_with fail
          go_roundw
          case rel => exact ⟨k + 1, E, by omega, hEs, by go_num, by go_num, HST, HRV, HBV⟩
          case measure => simp [intOf]; omega
      · obtain rfl : k = n := by omega
        have ha' : a = s.size := by
          rcases hS.out with ⟨h1, _⟩ | ⟨_, h2⟩
          · have := HN.out; omega
          · rw [h2, HLEN.out]
        subst ha'
        go_wp2_with fail
        refine (works_true wr (HT.out.below hB.out)).mono ?_
        rintro e w2 ⟨rfl, hb⟩
        have HB2 := hidden (below_then hB.out hb)
        clear hb
        go_wp2_with fail
        go_ret
        exact ⟨rfl, HB2.out⟩
  · unfold T at hx
    obtain ⟨h1, h2, h3⟩ := er_S hx
    have hps : p < s.size := by
      rw [List.length_drop, HLEN.out] at h3
      have := skp_le false l
      rw [HLEN.out] at this
      omega
    have hx0 : ((x : Int) != 0) = true := by simp; omega
    have HB1 := hidden hb
    clear hx h1 h2 h3 hb
    go_wp2_with fail
    refine wp_veil ?_
    obtain ⟨W, hW⟩ : ∃ W, W = w1.alloc (.cells #[.int .i64 (x : Int), .int .i64 (p : Int)] 26) := ⟨_, rfl⟩
    obtain ⟨f, hf⟩ : ∃ f, f = w1.heap.size := ⟨_, rfl⟩
    have hH : Held W f 26 #[.int .i64 (x : Int), .int .i64 (p : Int)] := by rw [hW, hf]; exact Held.new _ _ _
    have hB1 : Below w1.heap.size w1 W := by rw [hW]; exact (Below.refl _ _).alloc (Nat.le_refl _) _
    have HBW := hidden (below_then HB1.out hB1)
    rw [← hW, ← hf]
    have f0 : W.cell? ⟨f, 0, none⟩ = some (.int .i64 (x : Int)) := hH.at_ rfl
    have f1 : W.cell? ⟨f, 1, none⟩ = some (.int .i64 (p : Int)) := hH.at_ rfl
    clear hW hf hH hB1 HB1
    go_wp2_with fail
    refine (works_true W (HT.out.below HBW.out)).mono ?_
    rintro e w2 ⟨rfl, hb⟩
    have HB2 := hidden (below_then HBW.out hb)
    clear hb
    go_wp2_with fail
    go_ret
    exact ⟨rfl, HB2.out⟩
theorem stands_walk (s : ByteArray) (w : World) (hT : Tab w) (hs : s.size ≤ maxLen) :
    Calls Tryd.prog 3 #[.string s] w fun e w' => e = .returned (.bool true) ∧ Below w.heap.size w w' := by
  rcases Nat.lt_or_ge 300 s.size with h | h
  · exact stands_long s w hT h
  · exact stands_short s w hT h
end Go.Proofs.YtjmhmoigheomdaaDoor
