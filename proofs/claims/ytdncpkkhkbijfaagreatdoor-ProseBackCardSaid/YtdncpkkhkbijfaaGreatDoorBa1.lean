import Derived.Below
set_option linter.all false
set_option maxHeartbeats 0
set_option maxRecDepth 100000
namespace Go.Proofs.YtdncpkkhkbijfaaGreatDoor
abbrev Qf:=@List.length_append
abbrev Qh:=@Nat.le_refl
abbrev Qy:=@List.append_assoc
abbrev Yc:=@List.getD_eq_getElem?_getD
abbrev Y3:=@List.getElem?_eq_getElem
abbrev Qqh:=@List.mem_singleton
abbrev Zr:=@List.length_map
abbrev Yo:=@Bool.and_eq_true
abbrev Zp:=@List.map_append
abbrev Xe:=@List.append_nil
abbrev Au:=@Array.length_toList
abbrev Ht:=@List.getElem?_append_right
abbrev Vh:=@Nat.zero_le
abbrev Ja:=@Int.toNat_natCast
abbrev Iy:=@List.mem_cons_of_mem
abbrev Vf:=@List.length_drop
abbrev Mt:=@List.mem_cons
abbrev F6:=@List.take_of_length_le
abbrev F9:=@List.length_take
abbrev Fe:=@Nat.lt_of_lt_of_le
abbrev Ef:=@List.not_mem_nil
abbrev Ou:=@List.all_eq_true
abbrev Bq:=@Nat.zero_add
abbrev V7:=@Nat.lt_or_ge
abbrev F7:=@Nat.le_trans
abbrev Ea:=@List.map_map
abbrev Cu:=@Nat.mul_add
abbrev F5:=@List.getElem_mem
abbrev Qg1:=@List.getElem?_append_left
abbrev Ng:=@List.getElem?_map
abbrev La:=@Nat.add_assoc
abbrev Wt:=@decide_eq_true_eq
abbrev Qd:=@if_neg
abbrev Qk:=@if_pos
abbrev Qbz:=@List.getElem?_eq_none
abbrev Qla:=@List.drop_of_length_le
theorem Qp {α}{a:α}{as:List α}:(a::as).length=as.length+1:=rfl
theorem Q8 {α}:([]:List α).length=0:=rfl
theorem Y6 {α β}{f:α->β}{a:α}{l:List α}:(a::l).map f=f a::l.map f:=rfl
theorem Vi {α β}{f:α->β}:([]:List α).map f=[]:=rfl
theorem V6 {α}{a:α}{as bs:List α}:a::as++bs=a::(as++bs):=rfl
theorem Xk {α}(as:List α):[]++as=as:=rfl
theorem Yw {α}{a:α}:[a].length=1:=rfl
theorem Qb {α:Sort _} (x:α): ∃y,y=x:=⟨x,rfl⟩
theorem Qag {w:World}{o:Obj}:Go.RowKit.Below w.heap.size w (w.alloc o):=(Go.RowKit.Below.refl _ _).alloc (Nat.le_refl _) _
end Go.Proofs.YtdncpkkhkbijfaaGreatDoor
