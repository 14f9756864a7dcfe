/- Contract of the document's own SameItem. -/
import Derived.Test.YtbmkbpehkpdcmaaRefE4
namespace Go.Proofs.Ytbmkbpehkpdcmaa
open Go.ChangeShapes Go.WideShapes Go.ChangeAt Go.RowKit
open Ev (V3 rightV OkV)
set_option linter.unusedVariables false
set_option linter.unusedSimpArgs false
theorem rSameItem_any (m : Bool) (t : Int) (v : Value) (l : List V3) (m' : Bool) (t' : Int) (v' : Value) (l' : List V3) (w : World) (hv : ValsAt w v l) (hv' : ValsAt w v' l') :
    Calls Try.prog 18 #[item m t v, item m' t' v'] w fun e w' => e = .returned (.bool (decide (m = m') && (decide (t = t') && decide (l = l')))) ∧ Below w.heap.size w w' := by
  have bA : Below w.heap.size w ((w.alloc (.cells #[.bool m, .int .i64 t, v] 46)).alloc (.cells #[.bool m', .int .i64 t', v'] 46)) := bt (ba _ _) (ba _ _)
  have cS := fun (w0 : World) (b : Below w.heap.size w w0) => rSame_any t v l t' v' l' w0 (hv.later b) (hv'.later b)
  have H := Lib.hid cS; clear cS hv hv'
  generalize (decide (t = t') && decide (l = l')) = q at *
  cases m <;> cases m'
  all_goals
    go_enter Try.func18, Try.ntmps18
    go_wp2_with (go_at_call 16; ((with_reducible refine (H.out _ bA).mono ?_); rintro e w1 ⟨rfl, b1⟩; have b2 := bt bA b1))
    go_ret
    first | exact ⟨by simp, b2⟩ | exact ⟨by simp, bA⟩

end Go.Proofs.Ytbmkbpehkpdcmaa
