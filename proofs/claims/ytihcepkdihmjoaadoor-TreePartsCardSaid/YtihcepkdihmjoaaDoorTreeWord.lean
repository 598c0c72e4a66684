/- The walks through the reference's word and Tell. -/
import Derived.Test.YtihcepkdihmjoaaDoorTreeFew
import Derived.Test.YtihcepkdihmjoaaDoorTreeItoa
import Derived.Test.YtihcepkdihmjoaaDoorTreeWordsWalk
import Derived.IntWalk
namespace Go.Proofs.YtihcepkdihmjoaaDoor
open Go.RowKit
set_option linter.unusedVariables false

/-- the words as the reference lays them -/
def rwCells : Array Value := #[.string ⟨#[]⟩, .string ⟨#[]⟩, .string ⟨#[110, 105, 108]⟩, .string ⟨#[]⟩, .string ⟨#[]⟩, .string ⟨#[110, 101, 103]⟩, .string ⟨#[110, 111, 116]⟩, .string ⟨#[97, 116]⟩, .string ⟨#[108, 101, 110]⟩, .string ⟨#[110, 101, 119]⟩, .string ⟨#[99, 97, 108, 108]⟩, .string ⟨#[118, 97, 114]⟩, .string ⟨#[115, 101, 116]⟩, .string ⟨#[112, 117, 116]⟩, .string ⟨#[105, 102]⟩, .string ⟨#[119, 104, 105, 108, 101]⟩, .string ⟨#[102, 111, 114]⟩, .string ⟨#[98, 114, 101, 97, 107]⟩, .string ⟨#[99, 111, 110, 116, 105, 110, 117, 101]⟩, .string ⟨#[114, 101, 116, 117, 114, 110]⟩, .string ⟨#[112, 114, 105, 110, 116]⟩, .string ⟨#[100, 111]⟩, .string ⟨#[98, 108, 111, 99, 107]⟩, .string ⟨#[]⟩, .string ⟨#[102, 110]⟩, .string ⟨#[112, 114, 111, 103]⟩]
theorem rw_at : ∀ j, j < 26 → rwCells[j]? = some (txt (tWords.getD (j + 1) []))
  | 0, _ => by kernel_rfl
  | 1, _ => by kernel_rfl
  | 2, _ => by kernel_rfl
  | 3, _ => by kernel_rfl
  | 4, _ => by kernel_rfl
  | 5, _ => by kernel_rfl
  | 6, _ => by kernel_rfl
  | 7, _ => by kernel_rfl
  | 8, _ => by kernel_rfl
  | 9, _ => by kernel_rfl
  | 10, _ => by kernel_rfl
  | 11, _ => by kernel_rfl
  | 12, _ => by kernel_rfl
  | 13, _ => by kernel_rfl
  | 14, _ => by kernel_rfl
  | 15, _ => by kernel_rfl
  | 16, _ => by kernel_rfl
  | 17, _ => by kernel_rfl
  | 18, _ => by kernel_rfl
  | 19, _ => by kernel_rfl
  | 20, _ => by kernel_rfl
  | 21, _ => by kernel_rfl
  | 22, _ => by kernel_rfl
  | 23, _ => by kernel_rfl
  | 24, _ => by kernel_rfl
  | 25, _ => by kernel_rfl
  | n + 26, h => by omega
set_option maxRecDepth 100000 in
set_option maxHeartbeats 8000000 in
theorem rwd_any (x : Nd) (w : World) (h1 : 3 ≤ x.kind) (h2 : x.kind ≤ 26) (h5 : x.kind = 5 → 1 ≤ x.n ∧ x.n ≤ 16) :
    Calls Tryd.prog 37 #[x.v] w fun e w' => e = .returned (txt (wordOf x)) ∧ Below w.heap.size w w' := by
  obtain ⟨K, ka, kc, ks, n, s, at_⟩ := x
  obtain ⟨m, hm⟩ : ∃ m, m = ks.length := ⟨_, rfl⟩
  have HV : Hid (Nd.v ⟨K, ka, kc, ks, n, s, at_⟩ = .agg #[.int .i64 K, .slice ka m kc, .int .i64 n, .string s, .int .i64 at_]) := by rw [hm]; rfl
  rw [HV.out]
  simp only at h1 h2 h5
  clear HV
  obtain ⟨w1, hw1⟩ : ∃ w1, w1 = (w.alloc (.cells #[.int .i64 K, .slice ka m kc, .int .i64 n, .string s, .int .i64 at_] 36)).alloc (.cells #[.string ⟨#[]⟩, .string ⟨#[]⟩, .string ⟨#[110, 105, 108]⟩, .string ⟨#[]⟩, .string ⟨#[]⟩, .string ⟨#[110, 101, 103]⟩, .string ⟨#[110, 111, 116]⟩, .string ⟨#[97, 116]⟩, .string ⟨#[108, 101, 110]⟩, .string ⟨#[110, 101, 119]⟩, .string ⟨#[99, 97, 108, 108]⟩, .string ⟨#[118, 97, 114]⟩, .string ⟨#[115, 101, 116]⟩, .string ⟨#[112, 117, 116]⟩, .string ⟨#[105, 102]⟩, .string ⟨#[119, 104, 105, 108, 101]⟩, .string ⟨#[102, 111, 114]⟩, .string ⟨#[98, 114, 101, 97, 107]⟩, .string ⟨#[99, 111, 110, 116, 105, 110, 117, 101]⟩, .string ⟨#[114, 101, 116, 117, 114, 110]⟩, .string ⟨#[112, 114, 105, 110, 116]⟩, .string ⟨#[100, 111]⟩, .string ⟨#[98, 108, 111, 99, 107]⟩, .string ⟨#[]⟩, .string ⟨#[102, 110]⟩, .string ⟨#[112, 114, 111, 103]⟩] 9) := ⟨_, rfl⟩
  have HB : Hid (Below w.heap.size w w1) := by rw [hw1]; exact ((Below.refl _ _).alloc (Nat.le_refl _) _).alloc (by simp) _
  have HH : Hid (Held w1 (w.heap.size + 1) 9 rwCells) := by
    have h := Held.new (w.alloc (.cells #[.int .i64 K, .slice ka m kc, .int .i64 n, .string s, .int .i64 at_] 36)) 9 rwCells
    have e : (w.alloc (.cells #[.int .i64 K, .slice ka m kc, .int .i64 n, .string s, .int .i64 at_] 36)).heap.size = w.heap.size + 1 := by simp
    rw [e] at h
    rw [hw1]
    exact h
  have HH0 : Hid (Held w1 w.heap.size 36 #[.int .i64 K, .slice ka m kc, .int .i64 n, .string s, .int .i64 at_]) := by
    rw [hw1]
    exact (Held.new w _ _).alloc _
  by_cases k5 : K = 5
  · obtain ⟨g1, g2⟩ := h5 k5
    obtain ⟨k, hk⟩ : ∃ k : Nat, n = (k : Int) + 1 := ⟨(n - 1).toNat, by omega⟩
    subst hk k5
    have hk16 : k < 16 := by omega
    have hki : (k : Int) < 16 := by omega
    have HW : Hid (wordOf ⟨5, ka, kc, ks, (k : Int) + 1, s, at_⟩ = tSigns.getD (k + 1) []) := sgnOf_in (k := k + 1) (by omega)
    rw [HW.out]
    clear HW hm h5 HH
    have HRS := hidden (rs_at k hk16)
    obtain ⟨C, hC⟩ : ∃ C, C = tSigns.getD (k + 1) [] := ⟨_, rfl⟩
    rw [← hC] at HRS ⊢
    clear hC
    go_enter Tryd.func37, Tryd.ntmps37
    rw [veil 2]
    go_wp2_with fail
    rw [← hw1]
    obtain ⟨g, hg⟩ : ∃ g, g = w.heap.size := ⟨_, rfl⟩
    rw [← hg] at HH0 ⊢
    clear hw1 hg
    have c0 := HH0.out.at_ (j := 0) rfl
    have c2 := HH0.out.at_ (j := 2) rfl
    refine wp_veil ?_
    have hwp : IntKind.i64.wrap (k : Int) = (k : Int) := Go.IntWalk.i64_in _ (by omega)
    have hk0 : (0 : Int) ≤ (k : Int) := by omega
    have hkd : decide (k < 16) = true := by simpa using hk16
    go_wp2_with fail
    go_region_with (go_at_call 17; refine (signs_any _).mono ?_; rintro e w2 ⟨rfl, hw2⟩; have HB2 : Hid (Below w1.heap.size w1 w2) := (by rw [hw2]; exact ((below_drewN w1 1 _)).alloc (Nat.le_refl _) _); have hcC : w2.cell? ⟨w1.heap.size, k, none⟩ = some (txt C) := (by rw [hw2]; exact (Held.new w1.drew 9 rsCells).at_ HRS.out); unfold txt at hcC; have c22 := (HH0.out.since HB2.out).at_ (j := 2) rfl; clear hw2)
    all_goals
      go_wp2_with fail
      go_ret
      exact ⟨rfl, HB.out.trans (HB2.out.mono HB.out.size)⟩
  · obtain ⟨k, hk⟩ : ∃ k : Nat, K = (k : Int) + 1 := ⟨(K - 1).toNat, by omega⟩
    subst hk
    have hk26 : k < 26 := by omega
    have hki : (k : Int) < 26 := by omega
    have HW : Hid (wordOf ⟨(k : Int) + 1, ka, kc, ks, n, s, at_⟩ = tWords.getD (k + 1) []) := by
      show wordOf _ = _
      unfold wordOf
      simp only
      rw [if_neg (by omega), if_neg (by omega), if_neg k5]
      rfl
    rw [HW.out]
    clear HW hm h5
    have cC := HH.out.at_ (rw_at k hk26)
    unfold txt at cC ⊢
    obtain ⟨C, hC⟩ : ∃ C, C = tWords.getD (k + 1) [] := ⟨_, rfl⟩
    rw [← hC] at cC ⊢
    clear hC
    have e5 : ((k : Int) + 1 == 5) = false := by simpa using k5
    clear k5
    go_enter Tryd.func37, Tryd.ntmps37
    rw [veil 2]
    go_wp2_with fail
    rw [← hw1]
    have c0 := HH0.out.at_ (j := 0) rfl
    clear hw1
    refine wp_veil ?_
    go_wp2_with fail
    go_ret
    exact ⟨rfl, HB.out⟩
end Go.Proofs.YtihcepkdihmjoaaDoor
