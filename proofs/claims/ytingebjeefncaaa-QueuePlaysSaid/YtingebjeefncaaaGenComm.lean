/- Regions with a communication, in one goroutine, for the ordinary walk: a select that is its region's first operation, a send that is its last; a code that is kept out of the walk's sight. No program. -/
import Derived.Conc.LoneSelect
import Derived.Tactics
import Derived.Below
import Derived.WalkKit
namespace Go.Proofs.Ytingebjeefncaaa
open Go.RowKit Go.Conc
set_option linter.unusedVariables false

/-- a code that the walk does not open -/
def Veil (c : Code) : Code := c
theorem veil (id : Nat) (ops : Array Oper) : Code.region id ops false = Veil (Code.region id ops false) := rfl
theorem wp_veil {P : Program} {c : Code} {Q : Exit → Act → World → Prop} {a : Act} {w : World} (h : c.wp P Q a w) : (Veil c).wp P Q a w := h
theorem comm_any {P : Program} {b : Frame} {a : Act} {k : List Item} {cs : List Frame} {w w' : World} {ops : Array Oper} {i : Nat} {rest : List Nat} {o : Oper} {cases : Array CommCase} {blocking : Bool} {shape : CommShape}
    (ho : ops[i]? = some o) (hw : Region.wanted o (yielded ops a.tmps) = true) (hr : (execOp a.eval o).run P w = .ok (.comm cases blocking shape) w') :
    ∃ es, stepG P true (G (b.at a (.inRegion ops (i :: rest) :: k)) cs) w = .comm (G (b.at a (.inRegion ops (i :: rest) :: k)) cs) cases blocking shape w' es := by
  by_cases hk : b.kind = .early
  · refine ⟨seen P b.fn #[], ?_⟩
    rw [stepG_oper ho hw]
    simp [stepG.apply, hr, G, Frame.at, hk, GStep.after]
  · exact ⟨_, stepG_comm ho hw hk hr⟩
/-- from here the region comes to its end -/
def Reg (P : Program) (ops : Array Oper) (Q : Exit → Act → World → Prop) (l : List Nat) (a : Act) (w : World) : Prop :=
  ∀ (b : Frame) (k : List Item) (cs : List Frame), ∃ e a' w', Q e a' w' ∧ Arrives P (lone (b.at a (.inRegion ops l :: k)) cs w) b k cs e a' w'
section
variable {P : Program} {ops : Array Oper} {Q : Exit → Act → World → Prop} {a : Act} {w w' : World} {i : Nat} {rest : List Nat} {o : Oper} {v : Value}
theorem Reg.region {id : Nat} (h : Reg P ops Q (List.range ops.size) a w) : (Code.region id ops false).wp P Q a w :=
  fun b k cs => let ⟨e, a', w', q, r⟩ := h b k cs; ⟨e, a', w', q, .of_steps (.one step_region) r⟩
theorem Reg.nil (h : Q .normal a w) : Reg P ops Q [] a w := fun b k cs => ⟨.normal, a, w, h, .one step_region_end⟩
theorem Reg.step (ho : ops[i]? = some o) (h : Reg P ops Q rest (a.put o.dst v) w')
    (hs : ∀ (b : Frame) (k : List Item) (cs : List Frame), step P (solo (G (b.at a (.inRegion ops (i :: rest) :: k)) cs) w) = .next (solo (G ((b.at a (.inRegion ops (i :: rest) :: k)).finish v) cs) w')) : Reg P ops Q (i :: rest) a w := by
  intro b k cs
  obtain ⟨e, a', w2, q, r⟩ := h b k cs
  refine ⟨e, a', w2, q, .of_steps (.one ?_) r⟩
  have := hs b k cs
  rw [Frame.finish_at, ho] at this
  exact this
theorem Reg.val (ho : ops[i]? = some o) (hw : Region.wanted o (yielded ops a.tmps) = true) (hr : (execOp a.eval o).run P w = .ok (.value v) w') (h : Reg P ops Q rest (a.put o.dst v) w') : Reg P ops Q (i :: rest) a w := by
  refine Reg.step ho h fun b k cs => ?_
  refine step_lone_go ?_
  have := stepG_op (P := P) (b := b) (k := k) (cs := cs) (w := w) (rest := rest) ho hw
  rw [this]
  simp [stepG.apply, hr]
theorem Reg.send {c cap s r : Nat} {buf : Array Value} {tm : Bool} {x z' : Value} (ho : ops[i]? = some o) (hw : Region.wanted o (yielded ops a.tmps) = true) (hr : (execOp a.eval o).run P w = .ok (.comm #[scase c x z'] true .send) w)
    (hc : w.heap[c]? = some (.chan cap buf false s r tm)) (hroom : buf.size < cap) (h : Reg P ops Q rest (a.put o.dst undef) (w.setChan c cap (buf.push x) false (s + 1) r tm)) : Reg P ops Q (i :: rest) a w := by
  refine Reg.step ho h fun b k cs => ?_
  obtain ⟨es, hes⟩ := comm_any (b := b) (k := k) (cs := cs) (rest := rest) ho hw hr
  exact step_lone_send_room hes hc hroom
theorem Reg.list {l : List Oper} {m : Nat} (h : wpList P ops Q l a w) (hl : ∀ j, l[j]? = ops[m + j]?) : Reg P ops Q (List.range' m l.length) a w := by
  rw [← wpOps_eq_wpList l m hl] at h
  exact fun b k cs => wp_ops _ a w h b k cs
/-- a select of one receive, with a default, that is its region's first operation: something lies there -/
theorem wp_select_some {id : Nat} {os : List Oper} {c cap s r : Nat} {buf : Array Value} {closed tm : Bool} {z : Value} (hw : o.guard = none) (hr : (execOp a.eval o).run P w = .ok (.comm #[rcase c z] false .select) w)
    (hc : w.heap[c]? = some (.chan cap buf closed s r tm)) (hsome : 0 < buf.size)
    (h : wpList P (o :: os).toArray Q os (a.put o.dst (.tuple #[goInt 0, .bool true, buf.getD 0 undef])) (w.setChan c cap (buf.extract 1 buf.size) closed s (r + 1) tm)) : (Code.region id (o :: os).toArray false).wp P Q a w := by
  refine Reg.region ?_
  have e : List.range (o :: os).toArray.size = 0 :: List.range' 1 os.length := by
    rw [List.range_eq_range', List.size_toArray, List.length_cons, List.range'_succ]
  rw [e]
  have h2 := Reg.list (m := 1) h (fun j => by simp [Nat.add_comm 1 j])
  refine Reg.step (o := o) (by simp) h2 fun b k cs => ?_
  obtain ⟨es, hes⟩ := comm_any (b := b) (k := k) (cs := cs) (rest := List.range' 1 os.length) (i := 0) (ops := (o :: os).toArray) (o := o) (by simp) (by simp [Region.wanted, hw]) hr
  exact step_lone_select_recv_buf hes hc hsome
/-- .. nothing lies there -/
theorem wp_select_none {id : Nat} {os : List Oper} {c cap s r : Nat} {tm : Bool} {z : Value} (hw : o.guard = none) (hr : (execOp a.eval o).run P w = .ok (.comm #[rcase c z] false .select) w)
    (hc : w.heap[c]? = some (.chan cap #[] false s r tm))
    (h : wpList P (o :: os).toArray Q os (a.put o.dst (.tuple #[goInt (-1), .bool false, z])) w) : (Code.region id (o :: os).toArray false).wp P Q a w := by
  refine Reg.region ?_
  have e : List.range (o :: os).toArray.size = 0 :: List.range' 1 os.length := by
    rw [List.range_eq_range', List.size_toArray, List.length_cons, List.range'_succ]
  rw [e]
  have h2 := Reg.list (m := 1) h (fun j => by simp [Nat.add_comm 1 j])
  refine Reg.step (o := o) (by simp) h2 fun b k cs => ?_
  obtain ⟨es, hes⟩ := comm_any (b := b) (k := k) (cs := cs) (rest := List.range' 1 os.length) (i := 0) (ops := (o :: os).toArray) (o := o) (by simp) (by simp [Region.wanted, hw]) hr
  exact step_lone_select_default hes hc
/-- .. of the nil channel -/
theorem wp_select_nil {id : Nat} {os : List Oper} {z : Value} (hw : o.guard = none) (hr : (execOp a.eval o).run P w = .ok (.comm #[rcaseNil z] false .select) w)
    (h : wpList P (o :: os).toArray Q os (a.put o.dst (.tuple #[goInt (-1), .bool false, z])) w) : (Code.region id (o :: os).toArray false).wp P Q a w := by
  refine Reg.region ?_
  have e : List.range (o :: os).toArray.size = 0 :: List.range' 1 os.length := by
    rw [List.range_eq_range', List.size_toArray, List.length_cons, List.range'_succ]
  rw [e]
  have h2 := Reg.list (m := 1) h (fun j => by simp [Nat.add_comm 1 j])
  refine Reg.step (o := o) (by simp) h2 fun b k cs => ?_
  obtain ⟨es, hes⟩ := comm_any (b := b) (k := k) (cs := cs) (rest := List.range' 1 os.length) (i := 0) (ops := (o :: os).toArray) (o := o) (by simp) (by simp [Region.wanted, hw]) hr
  exact step_lone_select_recv_nil hes
end
theorem run_len_chan' {P : Program} {w : World} {c cap s r : Nat} {buf : Array Value} {closed : Bool} {dir : ChanDir} {e : TypeId} (t ty : TypeId) (ht : P.underlying t = some (.chan dir e)) (hc : w.heap[c]? = some (.chan cap buf closed s r false)) :
    (Builtin.len_ #[t] ty #[.chan (some c)]).run P w = .ok (goInt buf.size) w := by
  simp [Builtin.len_, run_underlying ht, run_getObj_chan _ _ hc]

end Go.Proofs.Ytingebjeefncaaa
