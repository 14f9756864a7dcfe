/- Words of texts: the variables that are read: the signs, the search's bound, an error. -/
import Derived.Test.YtoaallhibgbokaaDoorLexM
import Derived.Test.YtoaallhibgbokaaDoorShelf
import Derived.Test.YtoaallhibgbokaaDoorLift
namespace Go.Proofs.YtoaallhibgbokaaDoor
open Go.ChangeShapes Go.WideShapes Go.ChangeAt Go.RowKit
set_option linter.unusedVariables false
set_option linter.unusedSimpArgs false

structure Tab (w : World) : Prop where
  signs : ∀ i (h : i < signL.length), w.cell? ⟨0, i, none⟩ = some (.string (mk (signL[i]'h)))
  max : ∃ m, w.cell? ⟨1, 0, none⟩ = some (.int .i64 m)
  err : ∃ ev, w.cell? ⟨3, 0, none⟩ = some ev ∧ (ev = .nilIface ∨ ∃ te pe, ev = .iface te pe)
theorem Tab.later {w w' : World} (h : Tab w) (hb : Below w.heap.size w w') : Tab w' := by
  obtain ⟨h1, ⟨m, h2⟩, ev, h3, h4⟩ := h
  exact ⟨fun i hi => by have := h1 i hi; rw [hb.cell (World.block_lt_of_cell? w _ this)]; exact this, ⟨m, by rw [hb.cell (World.block_lt_of_cell? w _ h2)]; exact h2⟩, ev, by rw [hb.cell (World.block_lt_of_cell? w _ h3)]; exact h3, h4⟩
end Go.Proofs.YtoaallhibgbokaaDoor
