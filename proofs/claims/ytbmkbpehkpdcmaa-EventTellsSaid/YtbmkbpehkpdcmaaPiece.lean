/- Pieces of a function's code: a region, a loop's body, a test, by number. -/
import Derived.Lib.Hide
import Derived.Test.YtbmkbpehkpdcmaaLift
namespace Go.Proofs.Ytbmkbpehkpdcmaa
/-- The region of number n. -/
def regionN (n : Nat) : Code → Option Code
  | .region m o d => if m = n then some (.region m o d) else none
  | .seq a b => match regionN n a with
    | some c => some c
    | none => regionN n b
  | .cond _ a b => match regionN n a with
    | some c => some c
    | none => regionN n b
  | .loop c => regionN n c
  | .block _ c => regionN n c
  | .scope c => regionN n c
  | _ => none
theorem wp_of_eq {P : Program} {c c' : Code} {Q : Exit → Act → World → Prop} {a : Act} {w : World} (h : Code.wp P c' Q a w) (e : c' = c) : Code.wp P c Q a w := e ▸ h
end Go.Proofs.Ytbmkbpehkpdcmaa
