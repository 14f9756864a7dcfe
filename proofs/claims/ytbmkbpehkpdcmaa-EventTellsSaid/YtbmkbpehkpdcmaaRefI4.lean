/- Contract of the law's own refItem. -/
import Derived.Test.YtbmkbpehkpdcmaaRefF4
import Derived.Test.YtbmkbpehkpdcmaaRefH4
namespace Go.Proofs.Ytbmkbpehkpdcmaa
open Go.ChangeShapes Go.WideShapes Go.ChangeAt Go.RowKit
open Ev (V3 rightV OkV)
theorem refItem_any (m : Bool) (t : Int) (v : Value) (l : List V3) (w : World) (hv : ValsAt w v l) (hl : l.length * 32 ≤ 140737488355328) :
    Calls Try.prog 12 #[item m t v] w fun e w' => ∃ v', (e = .returned (item m t v') ∧ Own w' w.heap.size 83 3 rowV v' l) ∧ Below w.heap.size w w' := by
  have hv0 := hv
  obtain ⟨A, cap, rfl, _, _, _⟩ := hv
  exact refItem_of m t A l.length cap l w (fun W hW => ref_any t _ l W (hv0.later hW) hl)
end Go.Proofs.Ytbmkbpehkpdcmaa
