/- What the rows' list of package-level variables gives: the search's bound is some int; a world that holds the listed ones. -/
import Derived.Test.YtdpgdpfalfiijaaDoorShelf
import Derived.Test.YtdpgdpfalfiijaaDoorLift
import Derived.Test.YtdpgdpfalfiijaaDoorRows
import Derived.Lib.LaidTab
import Derived.Shelf.Vars
import Derived.Deep.DeepHandedRow
namespace Go.Proofs.YtdpgdpfalfiijaaDoor
open Go.ChangeShapes Go.WideShapes Go.ChangeAt Go.RowKit
set_option linter.unusedVariables false

def Tab (w : World) : Prop := ∃ m, w.cell? ⟨0, 0, none⟩ = some (.int .i64 m)
theorem Tab.later {w w' : World} (h : Tab w) (hb : Below w.heap.size w w') : Tab w' := by
  obtain ⟨m, h⟩ := h
  exact ⟨m, by rw [hb.cell (World.block_lt_of_cell? w _ h)]; exact h⟩
theorem tabOf {W : World} (h : W.ShapedOpen Tryd.prog) : Tab W :=
  cell_of_shapedOpen_int (t := 3) (zero := #[.int .i64 0]) h (of_decide_eq_true (by kernel_rfl)) (by kernel_rfl) rfl (by kernel_rfl) (by kernel_rfl) Tryd.underlying3
/-- The cells of a datum of numbers. -/
def unD : Nat → DataW Unit → List Value
  | n + 1, .lit (.int q k) => [.int q k]
  | n + 1, .agg ds => ds.flatMap (unD n)
  | _, _ => []
def lay (cs : Array Value) : Obj → Obj
  | .cells _ t frozen => .cells cs t frozen
  | o => o
/-- A world for the witness: the settled one, the listed variables holding what their initialisers lay. -/
noncomputable def laidWorld (os : Os) : World :=
  { World.holding Tryd.prog os ⟨#[], #[], []⟩ with heap := ((World.holding Tryd.prog os ⟨#[], #[], []⟩).heap.modify 1 (lay (unD 8 Rows.laid_unicode_utf8_first).toArray)).modify 2 (lay (unD 8 Rows.laid_unicode_utf8_acceptRanges).toArray) }

theorem laid_try (os : Os) : laidMet Tryd.prog Rows.streamNamesRow.laid ((laidWorld os).forCall (fun _ _ => 0) ⟨#[], #[.slice none 0 0, .int .u8 0, .int .u8 0], []⟩).memory :=
  laidMet_of_run' 40 (by kernel_rfl) (by kernel_rfl)
end Go.Proofs.YtdpgdpfalfiijaaDoor
