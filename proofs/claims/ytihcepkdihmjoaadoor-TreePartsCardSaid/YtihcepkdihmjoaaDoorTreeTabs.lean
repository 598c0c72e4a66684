/- The tables that the program lays, as cells. -/
import Derived.Test.YtihcepkdihmjoaaDoorGenCell
import Derived.Test.YtihcepkdihmjoaaDoorTreeSpec
import Derived.Test.YtihcepkdihmjoaaDoorRows
import Derived.Lib.LaidTab
import Derived.Lib.Tables
namespace Go.Proofs.YtihcepkdihmjoaaDoor
open Go.RowKit
set_option linter.unusedVariables false

mutual
/-- the cells of plain data -/
def flat {H : Type} : DataW H → List Value
  | .lit (.int k z) => [.int k z]
  | .lit (.bool b) => [.bool b]
  | .lit (.string l) => [.string ⟨l.toArray⟩]
  | .agg ds => flats ds
  | _ => []
def flats {H : Type} : List (DataW H) → List Value
  | [] => []
  | d :: r => flat d ++ flats r
end
def rowCells : Array Value := (flat (H := Unit) Rows.laid_balustrade_tree_rows).toArray
def limitCells : Array Value := (flat (H := Unit) Rows.laid_balustrade_tree_limits).toArray
def makingCells : Array Value := (flat (H := Unit) Rows.laid_balustrade_tree_makings).toArray
def signCells : Array Value := (flat (H := Unit) Rows.laid_balustrade_tree_signs).toArray
def kindCells : Array Value := (flat (H := Unit) Rows.laid_balustrade_tree_kindWords).toArray
def keyCells : Array Value := (flat (H := Unit) Rows.laid_balustrade_tree_keyWords).toArray
/-- a text as a value -/
def txt (b : List UInt8) : Value := .string ⟨b.toArray⟩
/-- a row's parts -/
def isL : List Nat := [0, 1, 1, 1, 1, 1, 1, 1, 1, 1, 1, 9, 2, 2, 2, 2, 2, 2, 2, 2, 2, 2, 2, 4, 16, 32, 0]
def numL : List Nat := [0, 1, 2, 0, 0, 3, 0, 0, 0, 0, 0, 0, 0, 0, 0, 0, 0, 0, 0, 0, 0, 0, 0, 0, 4, 4, 0]
def mkL : List Nat := [0, 0, 0, 0, 0, 2, 1, 1, 2, 1, 1, 3, 1, 1, 2, 4, 5, 6, 0, 0, 1, 1, 7, 8, 0, 9, 10]
def namL : List Bool := [false, false, false, false, true, false, false, false, false, false, false, true, true, true, true, false, false, true, false, false, false, false, false, false, true, true, false]
def isOf (k : Nat) : Nat := isL.getD k 0
def numOf (k : Nat) : Nat := numL.getD k 0
def mkOf (k : Nat) : Nat := mkL.getD k 0
def namOf (k : Nat) : Bool := namL.getD k false
def wrd (k : Nat) : List UInt8 := tWords.getD k []
/-- spans, and parts -/
def limL : List (Int × Int) := [(0, 0), (0, 9223372036854775807), (0, 1), (1, 16), (1, 3)]
def lim (j : Nat) : Int × Int := limL.getD j (0, 0)
structure Pt where
  is : Nat
  lo : Int
  hi : Int
def mkP : List (Pt × Pt) := [(⟨0, 0, 0⟩, ⟨0, 0, 0⟩), (⟨1, 1, 1⟩, ⟨0, 0, 0⟩), (⟨1, 2, 2⟩, ⟨0, 0, 0⟩), (⟨1, 0, 8⟩, ⟨0, 0, 0⟩), (⟨1, 1, 1⟩, ⟨4, 1, 2⟩), (⟨1, 1, 1⟩, ⟨4, 1, 1⟩), (⟨1, 2, 2⟩, ⟨4, 1, 1⟩), (⟨8, 1, 1⟩, ⟨0, 0, 0⟩), (⟨2, 0, 9223372036854775807⟩, ⟨0, 0, 0⟩), (⟨16, 0, 8⟩, ⟨4, 1, 1⟩), (⟨32, 0, 200⟩, ⟨0, 0, 0⟩)]
def mkg (j : Nat) : Pt × Pt := mkP.getD j (⟨0, 0, 0⟩, ⟨0, 0, 0⟩)
theorem row_word : ∀ k, k < 27 → rowCells[k * 5]? = some (txt (wrd k))
  | 0, _ => by kernel_rfl
  | 1, _ => by kernel_rfl
  | 2, _ => by kernel_rfl
  | 3, _ => by kernel_rfl
  | 4, _ => by kernel_rfl
  | 5, _ => by kernel_rfl
  | 6, _ => by kernel_rfl
  | 7, _ => by kernel_rfl
  | 8, _ => by kernel_rfl
  | 9, _ => by kernel_rfl
  | 10, _ => by kernel_rfl
  | 11, _ => by kernel_rfl
  | 12, _ => by kernel_rfl
  | 13, _ => by kernel_rfl
  | 14, _ => by kernel_rfl
  | 15, _ => by kernel_rfl
  | 16, _ => by kernel_rfl
  | 17, _ => by kernel_rfl
  | 18, _ => by kernel_rfl
  | 19, _ => by kernel_rfl
  | 20, _ => by kernel_rfl
  | 21, _ => by kernel_rfl
  | 22, _ => by kernel_rfl
  | 23, _ => by kernel_rfl
  | 24, _ => by kernel_rfl
  | 25, _ => by kernel_rfl
  | 26, _ => by kernel_rfl
  | n + 27, h => by omega
theorem row_named : ∀ k, k < 27 → rowCells[k * 5 + 1]? = some (.bool (namOf k))
  | 0, _ => by kernel_rfl
  | 1, _ => by kernel_rfl
  | 2, _ => by kernel_rfl
  | 3, _ => by kernel_rfl
  | 4, _ => by kernel_rfl
  | 5, _ => by kernel_rfl
  | 6, _ => by kernel_rfl
  | 7, _ => by kernel_rfl
  | 8, _ => by kernel_rfl
  | 9, _ => by kernel_rfl
  | 10, _ => by kernel_rfl
  | 11, _ => by kernel_rfl
  | 12, _ => by kernel_rfl
  | 13, _ => by kernel_rfl
  | 14, _ => by kernel_rfl
  | 15, _ => by kernel_rfl
  | 16, _ => by kernel_rfl
  | 17, _ => by kernel_rfl
  | 18, _ => by kernel_rfl
  | 19, _ => by kernel_rfl
  | 20, _ => by kernel_rfl
  | 21, _ => by kernel_rfl
  | 22, _ => by kernel_rfl
  | 23, _ => by kernel_rfl
  | 24, _ => by kernel_rfl
  | 25, _ => by kernel_rfl
  | 26, _ => by kernel_rfl
  | n + 27, h => by omega
theorem row_is : ∀ k, k < 27 → rowCells[k * 5 + 2]? = some (.int .u8 (isOf k : Int))
  | 0, _ => by kernel_rfl
  | 1, _ => by kernel_rfl
  | 2, _ => by kernel_rfl
  | 3, _ => by kernel_rfl
  | 4, _ => by kernel_rfl
  | 5, _ => by kernel_rfl
  | 6, _ => by kernel_rfl
  | 7, _ => by kernel_rfl
  | 8, _ => by kernel_rfl
  | 9, _ => by kernel_rfl
  | 10, _ => by kernel_rfl
  | 11, _ => by kernel_rfl
  | 12, _ => by kernel_rfl
  | 13, _ => by kernel_rfl
  | 14, _ => by kernel_rfl
  | 15, _ => by kernel_rfl
  | 16, _ => by kernel_rfl
  | 17, _ => by kernel_rfl
  | 18, _ => by kernel_rfl
  | 19, _ => by kernel_rfl
  | 20, _ => by kernel_rfl
  | 21, _ => by kernel_rfl
  | 22, _ => by kernel_rfl
  | 23, _ => by kernel_rfl
  | 24, _ => by kernel_rfl
  | 25, _ => by kernel_rfl
  | 26, _ => by kernel_rfl
  | n + 27, h => by omega
theorem row_num : ∀ k, k < 27 → rowCells[k * 5 + 3]? = some (.int .u8 (numOf k : Int))
  | 0, _ => by kernel_rfl
  | 1, _ => by kernel_rfl
  | 2, _ => by kernel_rfl
  | 3, _ => by kernel_rfl
  | 4, _ => by kernel_rfl
  | 5, _ => by kernel_rfl
  | 6, _ => by kernel_rfl
  | 7, _ => by kernel_rfl
  | 8, _ => by kernel_rfl
  | 9, _ => by kernel_rfl
  | 10, _ => by kernel_rfl
  | 11, _ => by kernel_rfl
  | 12, _ => by kernel_rfl
  | 13, _ => by kernel_rfl
  | 14, _ => by kernel_rfl
  | 15, _ => by kernel_rfl
  | 16, _ => by kernel_rfl
  | 17, _ => by kernel_rfl
  | 18, _ => by kernel_rfl
  | 19, _ => by kernel_rfl
  | 20, _ => by kernel_rfl
  | 21, _ => by kernel_rfl
  | 22, _ => by kernel_rfl
  | 23, _ => by kernel_rfl
  | 24, _ => by kernel_rfl
  | 25, _ => by kernel_rfl
  | 26, _ => by kernel_rfl
  | n + 27, h => by omega
theorem row_mk : ∀ k, k < 27 → rowCells[k * 5 + 4]? = some (.int .u8 (mkOf k : Int))
  | 0, _ => by kernel_rfl
  | 1, _ => by kernel_rfl
  | 2, _ => by kernel_rfl
  | 3, _ => by kernel_rfl
  | 4, _ => by kernel_rfl
  | 5, _ => by kernel_rfl
  | 6, _ => by kernel_rfl
  | 7, _ => by kernel_rfl
  | 8, _ => by kernel_rfl
  | 9, _ => by kernel_rfl
  | 10, _ => by kernel_rfl
  | 11, _ => by kernel_rfl
  | 12, _ => by kernel_rfl
  | 13, _ => by kernel_rfl
  | 14, _ => by kernel_rfl
  | 15, _ => by kernel_rfl
  | 16, _ => by kernel_rfl
  | 17, _ => by kernel_rfl
  | 18, _ => by kernel_rfl
  | 19, _ => by kernel_rfl
  | 20, _ => by kernel_rfl
  | 21, _ => by kernel_rfl
  | 22, _ => by kernel_rfl
  | 23, _ => by kernel_rfl
  | 24, _ => by kernel_rfl
  | 25, _ => by kernel_rfl
  | 26, _ => by kernel_rfl
  | n + 27, h => by omega
theorem lim_lo : ∀ k, k < 5 → limitCells[k * 2]? = some (.int .i64 (lim k).1)
  | 0, _ => by kernel_rfl
  | 1, _ => by kernel_rfl
  | 2, _ => by kernel_rfl
  | 3, _ => by kernel_rfl
  | 4, _ => by kernel_rfl
  | n + 5, h => by omega
theorem lim_hi : ∀ k, k < 5 → limitCells[k * 2 + 1]? = some (.int .i64 (lim k).2)
  | 0, _ => by kernel_rfl
  | 1, _ => by kernel_rfl
  | 2, _ => by kernel_rfl
  | 3, _ => by kernel_rfl
  | 4, _ => by kernel_rfl
  | n + 5, h => by omega
theorem mk_is0 : ∀ k, k < 11 → makingCells[k * 6]? = some (.int .u8 ((mkg k).1.is : Int))
  | 0, _ => by kernel_rfl
  | 1, _ => by kernel_rfl
  | 2, _ => by kernel_rfl
  | 3, _ => by kernel_rfl
  | 4, _ => by kernel_rfl
  | 5, _ => by kernel_rfl
  | 6, _ => by kernel_rfl
  | 7, _ => by kernel_rfl
  | 8, _ => by kernel_rfl
  | 9, _ => by kernel_rfl
  | 10, _ => by kernel_rfl
  | n + 11, h => by omega
theorem mk_lo0 : ∀ k, k < 11 → makingCells[k * 6 + 1]? = some (.int .i64 (mkg k).1.lo)
  | 0, _ => by kernel_rfl
  | 1, _ => by kernel_rfl
  | 2, _ => by kernel_rfl
  | 3, _ => by kernel_rfl
  | 4, _ => by kernel_rfl
  | 5, _ => by kernel_rfl
  | 6, _ => by kernel_rfl
  | 7, _ => by kernel_rfl
  | 8, _ => by kernel_rfl
  | 9, _ => by kernel_rfl
  | 10, _ => by kernel_rfl
  | n + 11, h => by omega
theorem mk_hi0 : ∀ k, k < 11 → makingCells[k * 6 + 2]? = some (.int .i64 (mkg k).1.hi)
  | 0, _ => by kernel_rfl
  | 1, _ => by kernel_rfl
  | 2, _ => by kernel_rfl
  | 3, _ => by kernel_rfl
  | 4, _ => by kernel_rfl
  | 5, _ => by kernel_rfl
  | 6, _ => by kernel_rfl
  | 7, _ => by kernel_rfl
  | 8, _ => by kernel_rfl
  | 9, _ => by kernel_rfl
  | 10, _ => by kernel_rfl
  | n + 11, h => by omega
theorem mk_is1 : ∀ k, k < 11 → makingCells[k * 6 + 3]? = some (.int .u8 ((mkg k).2.is : Int))
  | 0, _ => by kernel_rfl
  | 1, _ => by kernel_rfl
  | 2, _ => by kernel_rfl
  | 3, _ => by kernel_rfl
  | 4, _ => by kernel_rfl
  | 5, _ => by kernel_rfl
  | 6, _ => by kernel_rfl
  | 7, _ => by kernel_rfl
  | 8, _ => by kernel_rfl
  | 9, _ => by kernel_rfl
  | 10, _ => by kernel_rfl
  | n + 11, h => by omega
theorem mk_lo1 : ∀ k, k < 11 → makingCells[k * 6 + 4]? = some (.int .i64 (mkg k).2.lo)
  | 0, _ => by kernel_rfl
  | 1, _ => by kernel_rfl
  | 2, _ => by kernel_rfl
  | 3, _ => by kernel_rfl
  | 4, _ => by kernel_rfl
  | 5, _ => by kernel_rfl
  | 6, _ => by kernel_rfl
  | 7, _ => by kernel_rfl
  | 8, _ => by kernel_rfl
  | 9, _ => by kernel_rfl
  | 10, _ => by kernel_rfl
  | n + 11, h => by omega
theorem mk_hi1 : ∀ k, k < 11 → makingCells[k * 6 + 5]? = some (.int .i64 (mkg k).2.hi)
  | 0, _ => by kernel_rfl
  | 1, _ => by kernel_rfl
  | 2, _ => by kernel_rfl
  | 3, _ => by kernel_rfl
  | 4, _ => by kernel_rfl
  | 5, _ => by kernel_rfl
  | 6, _ => by kernel_rfl
  | 7, _ => by kernel_rfl
  | 8, _ => by kernel_rfl
  | 9, _ => by kernel_rfl
  | 10, _ => by kernel_rfl
  | n + 11, h => by omega
theorem sign_at : ∀ k, k < 17 → signCells[k]? = some (txt (tSigns.getD k []))
  | 0, _ => by kernel_rfl
  | 1, _ => by kernel_rfl
  | 2, _ => by kernel_rfl
  | 3, _ => by kernel_rfl
  | 4, _ => by kernel_rfl
  | 5, _ => by kernel_rfl
  | 6, _ => by kernel_rfl
  | 7, _ => by kernel_rfl
  | 8, _ => by kernel_rfl
  | 9, _ => by kernel_rfl
  | 10, _ => by kernel_rfl
  | 11, _ => by kernel_rfl
  | 12, _ => by kernel_rfl
  | 13, _ => by kernel_rfl
  | 14, _ => by kernel_rfl
  | 15, _ => by kernel_rfl
  | 16, _ => by kernel_rfl
  | n + 17, h => by omega
theorem kind_at : ∀ k, k < 4 → kindCells[k]? = some (txt (tKinds.getD k []))
  | 0, _ => by kernel_rfl
  | 1, _ => by kernel_rfl
  | 2, _ => by kernel_rfl
  | 3, _ => by kernel_rfl
  | n + 4, h => by omega
theorem keyCells_eq : keyCells = (tKeys.map txt).toArray := by kernel_rfl
theorem signCells_eq : signCells = (tSigns.map txt).toArray := by kernel_rfl
theorem isOf_lt : ∀ k, k < 27 → isOf k < 256
  | 0, _ => by decide
  | 1, _ => by decide
  | 2, _ => by decide
  | 3, _ => by decide
  | 4, _ => by decide
  | 5, _ => by decide
  | 6, _ => by decide
  | 7, _ => by decide
  | 8, _ => by decide
  | 9, _ => by decide
  | 10, _ => by decide
  | 11, _ => by decide
  | 12, _ => by decide
  | 13, _ => by decide
  | 14, _ => by decide
  | 15, _ => by decide
  | 16, _ => by decide
  | 17, _ => by decide
  | 18, _ => by decide
  | 19, _ => by decide
  | 20, _ => by decide
  | 21, _ => by decide
  | 22, _ => by decide
  | 23, _ => by decide
  | 24, _ => by decide
  | 25, _ => by decide
  | 26, _ => by decide
  | n + 27, h => by omega
theorem numOf_lt : ∀ k, k < 27 → numOf k < 5
  | 0, _ => by decide
  | 1, _ => by decide
  | 2, _ => by decide
  | 3, _ => by decide
  | 4, _ => by decide
  | 5, _ => by decide
  | 6, _ => by decide
  | 7, _ => by decide
  | 8, _ => by decide
  | 9, _ => by decide
  | 10, _ => by decide
  | 11, _ => by decide
  | 12, _ => by decide
  | 13, _ => by decide
  | 14, _ => by decide
  | 15, _ => by decide
  | 16, _ => by decide
  | 17, _ => by decide
  | 18, _ => by decide
  | 19, _ => by decide
  | 20, _ => by decide
  | 21, _ => by decide
  | 22, _ => by decide
  | 23, _ => by decide
  | 24, _ => by decide
  | 25, _ => by decide
  | 26, _ => by decide
  | n + 27, h => by omega
theorem mkOf_lt : ∀ k, k < 27 → mkOf k < 11
  | 0, _ => by decide
  | 1, _ => by decide
  | 2, _ => by decide
  | 3, _ => by decide
  | 4, _ => by decide
  | 5, _ => by decide
  | 6, _ => by decide
  | 7, _ => by decide
  | 8, _ => by decide
  | 9, _ => by decide
  | 10, _ => by decide
  | 11, _ => by decide
  | 12, _ => by decide
  | 13, _ => by decide
  | 14, _ => by decide
  | 15, _ => by decide
  | 16, _ => by decide
  | 17, _ => by decide
  | 18, _ => by decide
  | 19, _ => by decide
  | 20, _ => by decide
  | 21, _ => by decide
  | 22, _ => by decide
  | 23, _ => by decide
  | 24, _ => by decide
  | 25, _ => by decide
  | 26, _ => by decide
  | n + 27, h => by omega
theorem namOf_eq : ∀ (k : Nat), k < 27 → named (k : Int) = namOf k
  | 0, _ => by decide
  | 1, _ => by decide
  | 2, _ => by decide
  | 3, _ => by decide
  | 4, _ => by decide
  | 5, _ => by decide
  | 6, _ => by decide
  | 7, _ => by decide
  | 8, _ => by decide
  | 9, _ => by decide
  | 10, _ => by decide
  | 11, _ => by decide
  | 12, _ => by decide
  | 13, _ => by decide
  | 14, _ => by decide
  | 15, _ => by decide
  | 16, _ => by decide
  | 17, _ => by decide
  | 18, _ => by decide
  | 19, _ => by decide
  | 20, _ => by decide
  | 21, _ => by decide
  | 22, _ => by decide
  | 23, _ => by decide
  | 24, _ => by decide
  | 25, _ => by decide
  | 26, _ => by decide
  | n + 27, h => by omega
/-- the tables in their variables -/
structure Tabs (w : World) : Prop where
  rows : ∃ t fr, w.heap[2]? = some (.cells rowCells t fr)
  limits : ∃ t fr, w.heap[3]? = some (.cells limitCells t fr)
  makings : ∃ t fr, w.heap[4]? = some (.cells makingCells t fr)
  signs : ∃ t fr, w.heap[0]? = some (.cells signCells t fr)
  kinds : ∃ t fr, w.heap[1]? = some (.cells kindCells t fr)
  keys : ∃ t fr, w.heap[5]? = some (.cells keyCells t fr)
  pow : ∃ t fr, w.heap[7]? = some (.cells (Lib.pow10Tab.map fun z => Value.int .u64 z).toArray t fr)
theorem tab_below {w w' : World} {g : Nat} {cs : Array Value} (h : ∃ t fr, w.heap[g]? = some (.cells cs t fr)) (hb : Below w.heap.size w w') : ∃ t fr, w'.heap[g]? = some (.cells cs t fr) := by
  obtain ⟨t, fr, h⟩ := h
  obtain ⟨hlt, _⟩ := Array.getElem?_eq_some_iff.1 h
  exact ⟨t, fr, by rw [hb.block _ hlt]; exact h⟩
theorem Tabs.below {w w' : World} (h : Tabs w) (hb : Below w.heap.size w w') : Tabs w' :=
  ⟨tab_below h.rows hb, tab_below h.limits hb, tab_below h.makings hb, tab_below h.signs hb, tab_below h.kinds hb, tab_below h.keys hb, tab_below h.pow hb⟩
theorem Tabs.block {w w' : World} (h : Tabs w) (hb : ∀ k c t fr, w.heap[k]? = some (.cells c t fr) → k < 10 → w'.heap[k]? = w.heap[k]?) : Tabs w' := by
  obtain ⟨⟨t1, f1, h1⟩, ⟨t2, f2, h2⟩, ⟨t3, f3, h3⟩, ⟨t4, f4, h4⟩, ⟨t5, f5, h5⟩, ⟨t6, f6, h6⟩, ⟨t7, f7, h7⟩⟩ := h
  exact ⟨⟨t1, f1, (hb _ _ _ _ h1 (by decide)).trans h1⟩, ⟨t2, f2, (hb _ _ _ _ h2 (by decide)).trans h2⟩, ⟨t3, f3, (hb _ _ _ _ h3 (by decide)).trans h3⟩, ⟨t4, f4, (hb _ _ _ _ h4 (by decide)).trans h4⟩,
    ⟨t5, f5, (hb _ _ _ _ h5 (by decide)).trans h5⟩, ⟨t6, f6, (hb _ _ _ _ h6 (by decide)).trans h6⟩, ⟨t7, f7, (hb _ _ _ _ h7 (by decide)).trans h7⟩⟩
theorem Tabs.tab {w : World} (h : Tabs w) : Lib.TabIs Tryd.prog w "internal/strconv.uint64pow10" .u64 Lib.pow10Tab := by
  obtain ⟨t, fr, h⟩ := h.pow
  have hg : Tryd.prog.globalNamed "internal/strconv.uint64pow10" = some 7 := by kernel_rfl
  unfold Lib.TabIs World.var?
  rw [hg]
  simp only [Option.bind_some, h]
theorem cell_tab {w : World} {g j : Nat} {cs : Array Value} {v : Value} (h : ∃ t fr, w.heap[g]? = some (.cells cs t fr)) (hv : cs[j]? = some v) : w.cell? ⟨g, j, none⟩ = some v := by
  obtain ⟨t, fr, h⟩ := h
  simp [World.cell?, h, hv]
end Go.Proofs.YtihcepkdihmjoaaDoor
