/- How what is read is made of what its parts are, and how much is left. No program. -/
import Derived.Test.YtagacfcpepoaoaaGreatDoorMSpec
namespace Go.Proofs.YtagacfcpepoaoaaGreatDoor
set_option linter.unusedVariables false

variable {d : Nat} {s s1 s2 : PS} {v : Out} {f : Flt} {lv : Nat} {p q k : Int}
theorem Reads.chain5 (h : Reads .front d s v) : Reads (.chain 5) d s v := by
  obtain ⟨n, hn⟩ := h
  exact ⟨n + 1, by rw [rd, if_pos rfl]; exact hn⟩
theorem Reads.chain (hlv : lv ≠ 5) (h : Reads (.chain (lv + 1)) d s (.ok ([p], s1))) (g : Reads (.loop lv p) d s1 v) : Reads (.chain lv) d s v := by
  obtain ⟨n, hn⟩ := h
  obtain ⟨m, hm⟩ := g
  exact ⟨max n m + 1, by rw [rd, if_neg hlv, rd_more hn (Nat.le_max_left ..)]; exact rd_more hm (Nat.le_max_right ..)⟩
theorem Reads.chain_err (hlv : lv ≠ 5) (h : Reads (.chain (lv + 1)) d s (.error f)) : Reads (.chain lv) d s (.error f) := by
  obtain ⟨n, hn⟩ := h
  exact ⟨n + 1, by rw [rd, if_neg hlv, hn]; rfl⟩
theorem Reads.loop_end (h : opAt lv s.tok = none) : Reads (.loop lv p) d s (.ok ([p], s)) := ⟨1, by rw [rd, h]⟩
theorem Reads.loop_err {op : Nat} (h : opAt lv s.tok = some op) (g : Reads (.chain (lv + 1)) d s.next (.error f)) : Reads (.loop lv p) d s (.error f) := by
  obtain ⟨n, hn⟩ := g
  exact ⟨n + 1, by rw [rd, h]; simp only []; rw [hn]; rfl⟩
theorem Reads.loop_high {op : Nat} (h : opAt lv s.tok = some op) (g : Reads (.chain (lv + 1)) d s.next (.ok ([q], s1))) (hl : lay (En 5 [p, q] op ⟨#[]⟩ s.tok.place) s1 = .error f) : Reads (.loop lv p) d s (.error f) := by
  obtain ⟨n, hn⟩ := g
  refine ⟨n + 1, ?_⟩
  rw [rd, h]
  simp only []
  rw [hn]
  show Out.go (some (lay (En 5 [p, q] op ⟨#[]⟩ s.tok.place) s1)) _ = _
  rw [hl]
  rfl
theorem Reads.loop_once {op : Nat} (hv : lv = 2) (h : opAt lv s.tok = some op) (g : Reads (.chain (lv + 1)) d s.next (.ok ([q], s1))) (hl : lay (En 5 [p, q] op ⟨#[]⟩ s.tok.place) s1 = .ok ([k], s2)) : Reads (.loop lv p) d s (.ok ([k], s2)) := by
  obtain ⟨n, hn⟩ := g
  refine ⟨n + 1, ?_⟩
  rw [rd, h]
  simp only []
  rw [hn]
  show Out.go (some (lay (En 5 [p, q] op ⟨#[]⟩ s.tok.place) s1)) _ = _
  rw [hl]
  show (if lv = 2 then _ else _) = _
  rw [if_pos hv]
theorem Reads.loop_next {op : Nat} (hv : lv ≠ 2) (h : opAt lv s.tok = some op) (g : Reads (.chain (lv + 1)) d s.next (.ok ([q], s1))) (hl : lay (En 5 [p, q] op ⟨#[]⟩ s.tok.place) s1 = .ok ([k], s2)) (r : Reads (.loop lv k) d s2 v) : Reads (.loop lv p) d s v := by
  obtain ⟨n, hn⟩ := g
  obtain ⟨m, hm⟩ := r
  refine ⟨max n m + 1, ?_⟩
  rw [rd, h]
  simp only []
  rw [rd_more hn (Nat.le_max_left ..)]
  show Out.go (some (lay (En 5 [p, q] op ⟨#[]⟩ s.tok.place) s1)) _ = _
  rw [hl]
  show (if lv = 2 then _ else _) = _
  rw [if_neg hv]
  exact rd_more hm (Nat.le_max_right ..)
theorem Reads.front_none (h : s.is minus = false) (h' : s.is bang = false) (g : Reads .idx d s v) : Reads .front d s v := by
  obtain ⟨n, hn⟩ := g
  exact ⟨n + 1, by rw [rd, h, h']; exact hn⟩
theorem Reads.front_deep (h : s.is minus = true ∨ s.is bang = true) (hd : 200 ≤ d) : Reads .front d s (.error (4, s.tok.place)) :=
  ⟨1, by rw [rd, if_pos (by simpa using h), if_pos hd]⟩
theorem Reads.front_err (h : s.is minus = true ∨ s.is bang = true) (hd : d < 200) (g : Reads .front (d + 1) s.next (.error f)) : Reads .front d s (.error f) := by
  obtain ⟨n, hn⟩ := g
  exact ⟨n + 1, by rw [rd, if_pos (by simpa using h), if_neg (by omega), hn]; rfl⟩
theorem Reads.front_lay (h : s.is minus = true ∨ s.is bang = true) (hd : d < 200) (g : Reads .front (d + 1) s.next (.ok ([q], s1))) : Reads .front d s (lay (En (if s.is minus then 6 else 7) [q] 0 ⟨#[]⟩ s.tok.place) s1) := by
  obtain ⟨n, hn⟩ := g
  exact ⟨n + 1, by rw [rd, if_pos (by simpa using h), if_neg (by omega), hn]; rfl⟩
theorem Reads.idx (h : Reads .single d s (.ok ([p], s1))) (g : Reads (.more p) d s1 v) : Reads .idx d s v := by
  obtain ⟨n, hn⟩ := h
  obtain ⟨m, hm⟩ := g
  exact ⟨max n m + 1, by rw [rd, rd_more hn (Nat.le_max_left ..)]; exact rd_more hm (Nat.le_max_right ..)⟩
theorem Reads.idx_err (h : Reads .single d s (.error f)) : Reads .idx d s (.error f) := by
  obtain ⟨n, hn⟩ := h
  exact ⟨n + 1, by rw [rd, hn]; rfl⟩
theorem Reads.more_end (h : s.is lb = false) : Reads (.more p) d s (.ok ([p], s)) := ⟨1, by rw [rd, h]; rfl⟩
theorem Reads.more_err (h : s.is lb = true) (g : Reads (.inner lb rb) d s (.error f)) : Reads (.more p) d s (.error f) := by
  obtain ⟨n, hn⟩ := g
  exact ⟨n + 1, by rw [rd, if_pos h, hn]; rfl⟩
theorem Reads.more_high (h : s.is lb = true) (g : Reads (.inner lb rb) d s (.ok ([q], s1))) (hl : lay (En 8 [p, q] 0 ⟨#[]⟩ s.tok.place) s1 = .error f) : Reads (.more p) d s (.error f) := by
  obtain ⟨n, hn⟩ := g
  refine ⟨n + 1, ?_⟩
  rw [rd, if_pos h, hn]
  show Out.go (some (lay (En 8 [p, q] 0 ⟨#[]⟩ s.tok.place) s1)) _ = _
  rw [hl]
  rfl
theorem Reads.more_next (h : s.is lb = true) (g : Reads (.inner lb rb) d s (.ok ([q], s1))) (hl : lay (En 8 [p, q] 0 ⟨#[]⟩ s.tok.place) s1 = .ok ([k], s2)) (r : Reads (.more k) d s2 v) : Reads (.more p) d s v := by
  obtain ⟨n, hn⟩ := g
  obtain ⟨m, hm⟩ := r
  refine ⟨max n m + 1, ?_⟩
  rw [rd, if_pos h, rd_more hn (Nat.le_max_left ..)]
  show Out.go (some (lay (En 8 [p, q] 0 ⟨#[]⟩ s.tok.place) s1)) _ = _
  rw [hl]
  exact rd_more hm (Nat.le_max_right ..)
variable {a b : List UInt8}
theorem Reads.inner_no (h : s.is a = false) : Reads (.inner a b) d s (.error (8, s.tok.place)) := ⟨1, by rw [rd, h]; rfl⟩
theorem Reads.inner_deep (h : s.is a = true) (hd : 200 ≤ d) : Reads (.inner a b) d s (.error (4, s.tok.place)) := ⟨1, by rw [rd, if_pos h, if_pos hd]⟩
theorem Reads.inner_err (h : s.is a = true) (hd : d < 200) (g : Reads (.chain 0) (d + 1) s.next (.error f)) : Reads (.inner a b) d s (.error f) := by
  obtain ⟨n, hn⟩ := g
  exact ⟨n + 1, by rw [rd, if_pos h, if_neg (by omega), hn]; rfl⟩
theorem Reads.inner_end (h : s.is a = true) (hd : d < 200) (g : Reads (.chain 0) (d + 1) s.next (.ok ([p], s1))) (hb : s1.is b = false) : Reads (.inner a b) d s (.error (8, s1.tok.place)) := by
  obtain ⟨n, hn⟩ := g
  refine ⟨n + 1, ?_⟩
  rw [rd, if_pos h, if_neg (by omega), hn]
  show (if s1.is b = true then _ else _) = _
  rw [hb]
  rfl
theorem Reads.inner_ok (h : s.is a = true) (hd : d < 200) (g : Reads (.chain 0) (d + 1) s.next (.ok ([p], s1))) (hb : s1.is b = true) : Reads (.inner a b) d s (.ok ([p], s1.next)) := by
  obtain ⟨n, hn⟩ := g
  refine ⟨n + 1, ?_⟩
  rw [rd, if_pos h, if_neg (by omega), hn]
  show (if s1.is b = true then _ else _) = _
  rw [if_pos hb]
variable {nm : ByteArray} {at_ : Nat} {l acc : List Int}
theorem Reads.call_no (h : s.is lp = false) : Reads (.call nm at_) d s (.error (8, s.tok.place)) := ⟨1, by rw [rd, h]; rfl⟩
theorem Reads.call_deep (h : s.is lp = true) (hd : 200 ≤ d) : Reads (.call nm at_) d s (.error (4, s.tok.place)) := ⟨1, by rw [rd, if_pos h, if_pos hd]⟩
theorem Reads.call_none (h : s.is lp = true) (hd : d < 200) (hr : s.next.is rp = true) : Reads (.call nm at_) d s (lay (En 11 [] 0 nm at_) s.next.next) := by
  refine ⟨1, ?_⟩
  rw [rd, if_pos h, if_neg (by omega), if_pos hr]
  show (if s.next.is rp = true then _ else _) = _
  rw [if_pos hr]
theorem Reads.call_err (h : s.is lp = true) (hd : d < 200) (hr : s.next.is rp = false) (g : Reads (.args []) (d + 1) s.next (.error f)) : Reads (.call nm at_) d s (.error f) := by
  obtain ⟨n, hn⟩ := g
  refine ⟨n + 1, ?_⟩
  rw [rd, if_pos h, if_neg (by omega), if_neg (by rw [hr]; decide), hn]
  rfl
theorem Reads.call_end (h : s.is lp = true) (hd : d < 200) (hr : s.next.is rp = false) (g : Reads (.args []) (d + 1) s.next (.ok (l, s1))) (hb : s1.is rp = false) : Reads (.call nm at_) d s (.error (8, s1.tok.place)) := by
  obtain ⟨n, hn⟩ := g
  refine ⟨n + 1, ?_⟩
  rw [rd, if_pos h, if_neg (by omega), if_neg (by rw [hr]; decide), hn]
  show (if s1.is rp = true then _ else _) = _
  rw [hb]
  rfl
theorem Reads.call_lay (h : s.is lp = true) (hd : d < 200) (hr : s.next.is rp = false) (g : Reads (.args []) (d + 1) s.next (.ok (l, s1))) (hb : s1.is rp = true) : Reads (.call nm at_) d s (lay (En 11 l 0 nm at_) s1.next) := by
  obtain ⟨n, hn⟩ := g
  refine ⟨n + 1, ?_⟩
  rw [rd, if_pos h, if_neg (by omega), if_neg (by rw [hr]; decide), hn]
  show (if s1.is rp = true then _ else _) = _
  rw [if_pos hb]
theorem Reads.args_long (h : acc.length = 8) : Reads (.args acc) d s (.error (3, s.tok.place)) := ⟨1, by rw [rd, if_pos h]⟩
theorem Reads.args_err (h : acc.length ≠ 8) (g : Reads (.chain 0) d s (.error f)) : Reads (.args acc) d s (.error f) := by
  obtain ⟨n, hn⟩ := g
  exact ⟨n + 1, by rw [rd, if_neg h, hn]; rfl⟩
theorem Reads.args_end (h : acc.length ≠ 8) (g : Reads (.chain 0) d s (.ok ([p], s1))) (hc : s1.is comma = false) : Reads (.args acc) d s (.ok (acc ++ [p], s1)) := by
  obtain ⟨n, hn⟩ := g
  refine ⟨n + 1, ?_⟩
  rw [rd, if_neg h, hn]
  show (if s1.is comma = true then _ else _) = _
  rw [hc]
  rfl
theorem Reads.args_next (h : acc.length ≠ 8) (g : Reads (.chain 0) d s (.ok ([p], s1))) (hc : s1.is comma = true) (r : Reads (.args (acc ++ [p])) d s1.next v) : Reads (.args acc) d s v := by
  obtain ⟨n, hn⟩ := g
  obtain ⟨m, hm⟩ := r
  refine ⟨max n m + 1, ?_⟩
  rw [rd, if_neg h, rd_more hn (Nat.le_max_left ..)]
  show (if s1.is comma = true then _ else _) = _
  rw [if_pos hc]
  exact rd_more hm (Nat.le_max_right ..)
/-- strength 8: which of its kinds a token begins -/
def sg (t : Tk) : Nat :=
  if sees t lp then 1 else if sees t wTrue then 2 else if sees t wFalse then 3 else if sees t wNil then 4 else if sees t wLen then 5 else if sees t wNew then 6 else if t.kind = 2 then 7 else if t.kind = 1 then 8 else 0
theorem rd_single (n d : Nat) (s : PS) : rd (n + 1) .single d s = (match sg s.tok with
    | 1 => rd n (.inner lp rp) d s
    | 2 => some (lay (En 2 [] 1 ⟨#[]⟩ s.tok.place) s.next)
    | 3 => some (lay (En 2 [] 0 ⟨#[]⟩ s.tok.place) s.next)
    | 4 => some (lay (En 3 [] 0 ⟨#[]⟩ s.tok.place) s.next)
    | 5 => Out.go (rd n (.inner lp rp) d s.next) fun q s1 => some (lay (En 9 [hd1 q] 0 ⟨#[]⟩ s.tok.place) s1)
    | 6 => Out.go (rd n (.inner lp rp) d s.next) fun q s1 => some (lay (En 10 [hd1 q] 0 ⟨#[]⟩ s.tok.place) s1)
    | 7 => some (lay (En 1 [] s.tok.n ⟨#[]⟩ s.tok.place) s.next)
    | 8 => (if s.next.is lp then rd n (.call ⟨s.tok.text.toArray⟩ s.tok.place) d s.next else some (lay (En 4 [] 0 ⟨s.tok.text.toArray⟩ s.tok.place) s.next))
    | _ => some (.error (8, s.tok.place))) := by
  rw [rd]
  unfold sg PS.is
  by_cases h1 : sees s.tok lp = true
  · simp only [if_pos h1]
  by_cases h2 : sees s.tok wTrue = true
  · simp only [if_neg h1, if_pos h2]
  by_cases h3 : sees s.tok wFalse = true
  · simp only [if_neg h1, if_neg h2, if_pos h3]
  by_cases h4 : sees s.tok wNil = true
  · simp only [if_neg h1, if_neg h2, if_neg h3, if_pos h4]
  by_cases h5 : sees s.tok wLen = true
  · simp only [if_neg h1, if_neg h2, if_neg h3, if_neg h4, if_pos h5]
  by_cases h6 : sees s.tok wNew = true
  · simp only [if_neg h1, if_neg h2, if_neg h3, if_neg h4, if_neg h5, if_pos h6]
  by_cases h7 : s.tok.kind = 2
  · simp only [if_neg h1, if_neg h2, if_neg h3, if_neg h4, if_neg h5, if_neg h6, if_pos h7]
  by_cases h8 : s.tok.kind = 1
  · simp only [if_neg h1, if_neg h2, if_neg h3, if_neg h4, if_neg h5, if_neg h6, if_neg h7, if_pos h8]
  · simp only [if_neg h1, if_neg h2, if_neg h3, if_neg h4, if_neg h5, if_neg h6, if_neg h7, if_neg h8]
theorem Reads.single_in (h : sg s.tok = 1) (g : Reads (.inner lp rp) d s v) : Reads .single d s v := by
  obtain ⟨n, hn⟩ := g
  exact ⟨n + 1, by rw [rd_single, h]; exact hn⟩
theorem Reads.single_true (h : sg s.tok = 2) : Reads .single d s (lay (En 2 [] 1 ⟨#[]⟩ s.tok.place) s.next) := ⟨1, by rw [rd_single, h]; rfl⟩
theorem Reads.single_false (h : sg s.tok = 3) : Reads .single d s (lay (En 2 [] 0 ⟨#[]⟩ s.tok.place) s.next) := ⟨1, by rw [rd_single, h]; rfl⟩
theorem Reads.single_nil (h : sg s.tok = 4) : Reads .single d s (lay (En 3 [] 0 ⟨#[]⟩ s.tok.place) s.next) := ⟨1, by rw [rd_single, h]; rfl⟩
theorem Reads.single_num (h : sg s.tok = 7) : Reads .single d s (lay (En 1 [] s.tok.n ⟨#[]⟩ s.tok.place) s.next) := ⟨1, by rw [rd_single, h]; rfl⟩
/-- len and new -/
def aroundK (j : Nat) : Int := if j = 5 then 9 else 10
theorem Reads.single_err {j : Nat} (hj : j = 5 ∨ j = 6) (h : sg s.tok = j) (g : Reads (.inner lp rp) d s.next (.error f)) : Reads .single d s (.error f) := by
  obtain ⟨n, hn⟩ := g
  rcases hj with rfl | rfl
  · exact ⟨n + 1, by rw [rd_single, h]; simp only []; rw [hn]; rfl⟩
  · exact ⟨n + 1, by rw [rd_single, h]; simp only []; rw [hn]; rfl⟩
theorem Reads.single_around {j : Nat} (hj : j = 5 ∨ j = 6) (h : sg s.tok = j) (g : Reads (.inner lp rp) d s.next (.ok ([q], s1))) : Reads .single d s (lay (En (aroundK j) [q] 0 ⟨#[]⟩ s.tok.place) s1) := by
  obtain ⟨n, hn⟩ := g
  rcases hj with rfl | rfl
  · exact ⟨n + 1, by rw [rd_single, h]; simp only []; rw [hn]; rfl⟩
  · exact ⟨n + 1, by rw [rd_single, h]; simp only []; rw [hn]; rfl⟩
theorem Reads.single_call (h : sg s.tok = 8) (hp : s.next.is lp = true) (g : Reads (.call ⟨s.tok.text.toArray⟩ s.tok.place) d s.next v) : Reads .single d s v := by
  obtain ⟨n, hn⟩ := g
  exact ⟨n + 1, by rw [rd_single, h]; simp only []; rw [if_pos hp]; exact hn⟩
theorem Reads.single_var (h : sg s.tok = 8) (hp : s.next.is lp = false) : Reads .single d s (lay (En 4 [] 0 ⟨s.tok.text.toArray⟩ s.tok.place) s.next) := by
  exact ⟨1, by rw [rd_single, h]; simp only []; rw [hp]; rfl⟩
theorem Reads.single_no (h : sg s.tok = 0) : Reads .single d s (.error (8, s.tok.place)) := ⟨1, by rw [rd_single, h]; rfl⟩
/-- nodes are no more than tokens that were taken, and no token comes back -/
def Slack (s : PS) (v : Out) : Prop := ∀ l s', v = .ok (l, s') → s'.l.length + s'.r.length ≤ s.l.length + s.r.length ∧ s'.r.length ≤ s.r.length ∧ (s.h.length = s.l.length → s'.h.length = s'.l.length)
theorem Slack.err (e : Flt) : Slack s (.error e) := fun l s' h => by cases h
theorem Slack.ok {l : List Int} : Slack s (.ok (l, s)) := fun l s' h => by cases h; exact ⟨Nat.le_refl _, Nat.le_refl _, id⟩
theorem Slack.next (h : s.next.r.length + 1 = s.r.length) {v : Out} (hv : Slack s.next v) : Slack s v := fun l s' e => by
  obtain ⟨h1, h2, h3⟩ := hv l s' e
  have e1 : s.next.l = s.l := rfl
  have e2 : s.next.h = s.h := rfl
  rw [e1] at h1 h3
  rw [e2] at h3
  exact ⟨by omega, by omega, h3⟩
theorem lay_slack {x : Nd} {l : List Int} {s' : PS} (h : lay x s = .ok (l, s')) : s'.l.length = s.l.length + 1 ∧ s'.r = s.r ∧ (s.h.length = s.l.length → s'.h.length = s'.l.length) ∧ l = [(s.l.length : Int)] := by
  unfold lay at h
  split at h
  · cases h
  · injection h with h
    injection h with h1 h2
    subst h1 h2
    exact ⟨by simp, rfl, fun e => by simp [e], rfl⟩
/-- a node is laid over what took at least one token -/
theorem Slack.lay {x : Nd} (h1 : s1.l.length + s1.r.length + 1 ≤ s.l.length + s.r.length) (h2 : s1.r.length ≤ s.r.length) (h3 : s.h.length = s.l.length → s1.h.length = s1.l.length) : Slack s (lay x s1) := fun l s' e => by
  obtain ⟨a, b, c, _⟩ := lay_slack e
  rw [b]
  exact ⟨by omega, h2, fun e => c (h3 e)⟩
theorem slack_is {t : List UInt8} (h : s.is t = true) : s.next.r.length + 1 = s.r.length := by
  unfold PS.is PS.tok at h
  cases hr : s.r with
  | nil => rw [hr] at h; simp [sees] at h
  | cons t r => unfold PS.next; rw [hr]; rfl
theorem slack_kind (h : s.tok.kind ≠ 0) : s.next.r.length + 1 = s.r.length := by
  unfold PS.tok at h
  cases hr : s.r with
  | nil => rw [hr] at h; exact absurd rfl h
  | cons t r => unfold PS.next; rw [hr]; rfl
theorem opFrom_sees {t : Tk} : ∀ (n a : Nat) {o : Nat}, opFrom t a n = some o → sees t (tSigns.getD o []) = true ∧ a ≤ o ∧ o < a + n
  | 0, _, _, h => by cases h
  | n + 1, a, o, h => by
    unfold opFrom at h
    split at h
    · injection h with h; subst h; exact ⟨by assumption, Nat.le_refl _, by omega⟩
    · have := opFrom_sees n (a + 1) h; exact ⟨this.1, by omega, by omega⟩
theorem opAt_sees {t : Tk} {o : Nat} (h : opAt lv t = some o) : sees t (tSigns.getD o []) = true := (opFrom_sees _ _ h).1
theorem go_ok {o : Option Out} {f : List Int → PS → Option Out} {v : Out} (h : Out.go o f = some v) : (∃ e, o = some (.error e) ∧ v = .error e) ∨ ∃ p s1, o = some (.ok (p, s1)) ∧ f p s1 = some v := by
  cases o with
  | none => cases h
  | some u =>
    cases u with
    | error e => injection h with h; exact .inl ⟨e, rfl, h.symm⟩
    | ok x => obtain ⟨p, s1⟩ := x; exact .inr ⟨p, s1, rfl, h⟩
theorem rd_slack : ∀ (n : Nat) (m : Md) (d : Nat) (s : PS) (v : Out), rd n m d s = some v → Slack s v
  | 0, _, _, _, _, h => by cases h
  | n + 1, .chain lv, d, s, v, h => by
    have ih := rd_slack n
    rw [rd] at h
    split at h
    · exact ih _ _ _ _ h
    · rcases go_ok h with ⟨e, _, rfl⟩ | ⟨p, s1, h1, h2⟩
      · exact .err e
      · have a := ih _ _ _ _ h1 _ _ rfl
        intro l s' e
        have b := ih _ _ _ _ h2 l s' e
        exact ⟨by omega, by omega, fun x => b.2.2 (a.2.2 x)⟩
  | n + 1, .loop lv p, d, s, v, h => by
    have ih := rd_slack n
    rw [rd] at h
    cases ho : opAt lv s.tok with
    | none => rw [ho] at h; injection h with h; subst h; exact .ok
    | some op =>
      rw [ho] at h
      have hs := slack_is (s := s) (opAt_sees ho)
      rcases go_ok h with ⟨e, _, rfl⟩ | ⟨q, s1, h1, h2⟩
      · exact .err e
      · have a := Slack.next hs (ih _ _ _ _ h1) _ _ rfl
        have a' := ih _ _ _ _ h1 _ _ rfl
        have e1 : s.next.l = s.l := rfl
        rw [e1] at a'
        rcases go_ok h2 with ⟨e, _, rfl⟩ | ⟨k, s2, h3, h4⟩
        · exact .err e
        · injection h3 with h3
          have c := lay_slack h3
          split at h4
          · injection h4 with h4; subst h4
            intro l s' e
            cases e
            rw [c.2.1]
            exact ⟨by omega, by omega, fun x => c.2.2.1 (a.2.2 x)⟩
          · intro l s' e
            have b := ih _ _ _ _ h4 l s' e
            rw [c.2.1] at b
            exact ⟨by omega, by omega, fun x => b.2.2 (c.2.2.1 (a.2.2 x))⟩
  | n + 1, .front, d, s, v, h => by
    have ih := rd_slack n
    rw [rd] at h
    split at h
    · rename_i g
      have hs : s.next.r.length + 1 = s.r.length := by
        rw [Bool.or_eq_true] at g
        rcases g with g | g
        · exact slack_is g
        · exact slack_is g
      split at h
      · injection h with h; subst h; exact .err _
      · rcases go_ok h with ⟨e, _, rfl⟩ | ⟨q, s1, h1, h2⟩
        · exact .err e
        · have a := ih _ _ _ _ h1 _ _ rfl
          have e1 : s.next.l = s.l := rfl
          have e2 : s.next.h = s.h := rfl
          rw [e1, e2] at a
          injection h2 with h2
          subst h2
          exact .lay (by omega) (by omega) a.2.2
    · exact ih _ _ _ _ h
  | n + 1, .idx, d, s, v, h => by
    have ih := rd_slack n
    rw [rd] at h
    rcases go_ok h with ⟨e, _, rfl⟩ | ⟨p, s1, h1, h2⟩
    · exact .err e
    · have a := ih _ _ _ _ h1 _ _ rfl
      intro l s' e
      have b := ih _ _ _ _ h2 l s' e
      exact ⟨by omega, by omega, fun x => b.2.2 (a.2.2 x)⟩
  | n + 1, .more p, d, s, v, h => by
    have ih := rd_slack n
    rw [rd] at h
    split at h
    · rename_i g
      rcases go_ok h with ⟨e, _, rfl⟩ | ⟨q, s1, h1, h2⟩
      · exact .err e
      · have hi : s1.l.length + s1.r.length + 1 ≤ s.l.length + s.r.length ∧ s1.r.length ≤ s.r.length ∧ (s.h.length = s.l.length → s1.h.length = s1.l.length) := by
          cases n with
          | zero => cases h1
          | succ n =>
            rw [rd, if_pos g] at h1
            have hs := slack_is g
            split at h1
            · cases h1
            · rcases go_ok h1 with ⟨e, _, he⟩ | ⟨p2, s3, h3, h4⟩
              · cases he
              · have a := rd_slack n _ _ _ _ h3 _ _ rfl
                have e1 : s.next.l = s.l := rfl
                have e2 : s.next.h = s.h := rfl
                rw [e1, e2] at a
                split at h4
                · rename_i g2
                  have hs2 := slack_is g2
                  injection h4 with h4
                  injection h4 with h4
                  injection h4 with _ h5
                  subst h5
                  have e3 : s3.next.l = s3.l := rfl
                  have e4 : s3.next.h = s3.h := rfl
                  rw [e3, e4]
                  exact ⟨by omega, by omega, a.2.2⟩
                · cases h4
        rcases go_ok h2 with ⟨e, _, rfl⟩ | ⟨k, s2, h3, h4⟩
        · exact .err e
        · injection h3 with h3
          have c := lay_slack h3
          intro l s' e
          have b := ih _ _ _ _ h4 l s' e
          rw [c.2.1] at b
          exact ⟨by omega, by omega, fun x => b.2.2 (c.2.2.1 (hi.2.2 x))⟩
    · injection h with h; subst h; exact .ok
  | n + 1, .inner a b, d, s, v, h => by
    have ih := rd_slack n
    rw [rd] at h
    split at h
    · rename_i g
      have hs := slack_is g
      split at h
      · injection h with h; subst h; exact .err _
      · rcases go_ok h with ⟨e, _, rfl⟩ | ⟨q, s1, h1, h2⟩
        · exact .err e
        · have a := Slack.next hs (ih _ _ _ _ h1) _ _ rfl
          split at h2
          · rename_i g2
            have hs2 := slack_is g2
            injection h2 with h2
            subst h2
            intro l s' e
            cases e
            have e1 : s1.next.l = s1.l := rfl
            have e2 : s1.next.h = s1.h := rfl
            rw [e1, e2]
            exact ⟨by omega, by omega, a.2.2⟩
          · injection h2 with h2; subst h2; exact .err _
    · injection h with h; subst h; exact .err _
  | n + 1, .call nm at_, d, s, v, h => by
    have ih := rd_slack n
    rw [rd] at h
    split at h
    · rename_i g
      have hs := slack_is g
      split at h
      · injection h with h; subst h; exact .err _
      · rcases go_ok h with ⟨e, _, rfl⟩ | ⟨q, s1, h1, h2⟩
        · exact .err e
        · have a' : Slack s.next (.ok (q, s1)) := by
            split at h1
            · injection h1 with h1; injection h1 with h1; injection h1 with h3 h4; subst h3 h4; exact .ok
            · exact ih _ _ _ _ h1
          have a := Slack.next hs a' _ _ rfl
          split at h2
          · rename_i g2
            have hs2 := slack_is g2
            injection h2 with h2
            subst h2
            have e1 : s1.next.l = s1.l := rfl
            have e2 : s1.next.h = s1.h := rfl
            exact .lay (by rw [e1]; omega) (by omega) (by rw [e1, e2]; exact a.2.2)
          · injection h2 with h2; subst h2; exact .err _
    · injection h with h; subst h; exact .err _
  | n + 1, .args acc, d, s, v, h => by
    have ih := rd_slack n
    rw [rd] at h
    split at h
    · injection h with h; subst h; exact .err _
    · rcases go_ok h with ⟨e, _, rfl⟩ | ⟨p, s1, h1, h2⟩
      · exact .err e
      · have a := ih _ _ _ _ h1 _ _ rfl
        split at h2
        · rename_i g2
          have hs2 := slack_is g2
          intro l s' e
          have b := Slack.next hs2 (ih _ _ _ _ h2) l s' e
          exact ⟨by omega, by omega, fun x => b.2.2 (a.2.2 x)⟩
        · injection h2 with h2; subst h2
          intro l s' e
          cases e
          exact a
  | n + 1, .single, d, s, v, h => by
    have ih := rd_slack n
    rw [rd_single] at h
    have hk : sg s.tok ≠ 0 → s.next.r.length + 1 = s.r.length := by
      intro h0
      refine slack_kind (fun e => h0 ?_)
      unfold sg sees
      rw [e]
      rfl
    have e1 : s.next.l = s.l := rfl
    have e2 : s.next.h = s.h := rfl
    have leaf : sg s.tok ≠ 0 → ∀ x, some (lay x s.next) = some v → Slack s v := by
      intro h0 x hx
      injection hx with hx
      subst hx
      have := hk h0
      exact .lay (by rw [e1]; omega) (by omega) (by rw [e1, e2]; exact id)
    have arnd : sg s.tok ≠ 0 → ∀ K, (Out.go (rd n (.inner lp rp) d s.next) fun q s1 => some (lay (En K [hd1 q] 0 ⟨#[]⟩ s.tok.place) s1)) = some v → Slack s v := by
      intro h0 K hx
      have hs := hk h0
      rcases go_ok hx with ⟨e, _, rfl⟩ | ⟨q, s1, h1, h2⟩
      · exact .err e
      · have a := ih _ _ _ _ h1 _ _ rfl
        rw [e1, e2] at a
        injection h2 with h2
        subst h2
        exact .lay (by omega) (by omega) a.2.2
    split at h
    · exact ih _ _ _ _ h
    · rename_i hg; exact leaf (by rw [hg]; decide) _ h
    · rename_i hg; exact leaf (by rw [hg]; decide) _ h
    · rename_i hg; exact leaf (by rw [hg]; decide) _ h
    · rename_i hg; exact arnd (by rw [hg]; decide) _ h
    · rename_i hg; exact arnd (by rw [hg]; decide) _ h
    · rename_i hg; exact leaf (by rw [hg]; decide) _ h
    · rename_i hg
      have hs := hk (by rw [hg]; decide)
      split at h
      · exact Slack.next hs (ih _ _ _ _ h)
      · exact leaf (by rw [hg]; decide) _ h
    · injection h with h; subst h; exact .err _
theorem Reads.slack {m : Md} {l : List Int} {s' : PS} (h : Reads m d s (.ok (l, s'))) : s'.l.length + s'.r.length ≤ s.l.length + s.r.length ∧ s'.r.length ≤ s.r.length ∧ (s.h.length = s.l.length → s'.h.length = s'.l.length) := by
  obtain ⟨n, hn⟩ := h
  exact rd_slack n _ _ _ _ hn _ _ rfl
end Go.Proofs.YtagacfcpepoaoaaGreatDoor
