import Derived.Below
set_option linter.all false
set_option maxHeartbeats 0
set_option maxRecDepth 100000
namespace Go.Proofs.YtdncpkkhkbijfaaDoor
abbrev Qd:=@List.length_append
abbrev Yc:=@Nat.le_refl
abbrev Yg:=@List.append_assoc
abbrev Yh:=@List.getD_eq_getElem?_getD
abbrev Za:=@List.getElem?_eq_getElem
abbrev Sm:=@List.mem_singleton
abbrev Cq:=@List.length_map
abbrev Q7:=@Bool.and_eq_true
abbrev J9:=@List.map_append
abbrev Js:=@List.append_nil
abbrev Gw:=@Array.length_toList
abbrev H8:=@List.getElem?_append_right
abbrev Kr:=@Nat.zero_le
abbrev Jo:=@Int.toNat_natCast
abbrev Ip:=@List.mem_cons_of_mem
abbrev Xt:=@List.length_drop
abbrev Ac:=@List.take_of_length_le
abbrev Vr:=@List.length_take
abbrev Uc:=@Nat.lt_of_lt_of_le
abbrev Cr:=@List.all_eq_true
abbrev Fw:=@Nat.zero_add
abbrev Xa:=@Nat.lt_or_ge
abbrev Xw:=@Nat.le_trans
abbrev K7:=@List.map_map
abbrev Xo:=@Nat.mul_add
abbrev Ca:=@List.getElem_mem
abbrev R8:=@List.getElem?_append_left
abbrev Gc:=@List.getElem?_map
abbrev Gg:=@Nat.add_assoc
abbrev Qu:=@decide_eq_true_eq
abbrev Q6:=@if_neg
abbrev Wy:=@if_pos
abbrev Ox:=@List.getElem?_eq_none
theorem Qf {α}{a:α}{as:List α}:(a::as).length=as.length+1:=rfl
theorem Qk {α}:([]:List α).length=0:=rfl
theorem Yi {α β}{f:α->β}{a:α}{l:List α}:(a::l).map f=f a::l.map f:=rfl
theorem Z4 {α β}{f:α->β}:([]:List α).map f=[]:=rfl
theorem Ba {α}(as:List α):[]++as=as:=rfl
theorem Ef {α}{a:α}:[a].length=1:=rfl
theorem Qb {α:Sort _} (x:α): ∃y,y=x:=⟨x,rfl⟩
theorem Qn {w:World}{o:Obj}:Go.RowKit.Below w.heap.size w (w.alloc o):=(Go.RowKit.Below.refl _ _).alloc (Nat.le_refl _) _
end Go.Proofs.YtdncpkkhkbijfaaDoor
