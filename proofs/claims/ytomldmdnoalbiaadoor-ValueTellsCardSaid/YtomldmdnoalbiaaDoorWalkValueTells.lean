/- ValueTells: the walk. -/
import Derived.Test.YtomldmdnoalbiaaDoorTells0
import Derived.Test.YtomldmdnoalbiaaDoorTells1
namespace Go.Proofs.YtomldmdnoalbiaaDoor
open Go.ChangeShapes Go.WideShapes Go.ChangeAt Go.RowKit
set_option linter.unusedVariables false
set_option linter.unusedSimpArgs false
theorem walk_ValueTells (k n : Int) (s : ByteArray) (l m : Int) (t : ByteArray) (c : Int) (U : ByteArray) (a : Int) (near : Bool)
    (n0 : -9223372036854775808 ≤ n) (n1 : n ≤ 9223372036854775807) (hs : s.size ≤ 140737488351232) (m0 : -9223372036854775808 ≤ m) (m1 : m ≤ 9223372036854775807) (ht : t.size ≤ 140737488351232)
    (c0 : 0 ≤ c) (c1 : c ≤ 255) (hU : U.size ≤ 140737488351232) (a0 : -9223372036854775808 ≤ a) (a1 : a ≤ 9223372036854775807) (w : World) (hT : Tab w) :
    Calls Tryd.prog 3 #[vv k n s, vv l m t, .int .u8 c, .string U, .int .i64 a, .bool near] w fun e w' => e = .returned (.bool true) ∧ Below w.heap.size w w' := by
  have HC := Lib.hid (And.intro (fun w => own_v (c / 4) n s w (by unfold maxLen; omega) (by omega) (by omega) n0 n1) (fun w => own_v (c / 4 + c / 64) m t w (by unfold maxLen; omega) (by omega) (by omega) m0 m1))
  have e1 := ownN_lo (c / 4) n n0
  have e2 := ownN_hi (c / 4) n n1
  have z1 := ownS_size (c / 4) s
  have z2 := ownS_size (c / 4 + c / 64) t
  rcases (by omega : 0 < c % 4 ∨ c % 4 = 0) with hA | hA <;> rcases (by omega : 3 < c % 8 ∨ c % 8 ≤ 3) with hB | hB <;> cases near
  · exact tells_110 k n s l m t c U a _ _ _ _ _ _ n0 n1 hs m0 m1 ht e1 e2 z1 z2 c0 c1 hU a0 a1 w hT hA hB HC
  · exact tells_111 k n s l m t c U a _ _ _ _ _ _ n0 n1 hs m0 m1 ht e1 e2 z1 z2 c0 c1 hU a0 a1 w hT hA hB HC
  · exact tells_100 k n s l m t c U a _ _ _ _ _ _ n0 n1 hs m0 m1 ht e1 e2 z1 z2 c0 c1 hU a0 a1 w hT hA hB HC
  · exact tells_101 k n s l m t c U a _ _ _ _ _ _ n0 n1 hs m0 m1 ht e1 e2 z1 z2 c0 c1 hU a0 a1 w hT hA hB HC
  · exact tells_010 k n s l m t c U a _ _ _ _ _ _ n0 n1 hs m0 m1 ht e1 e2 z1 z2 c0 c1 hU a0 a1 w hT hA hB HC
  · exact tells_011 k n s l m t c U a _ _ _ _ _ _ n0 n1 hs m0 m1 ht e1 e2 z1 z2 c0 c1 hU a0 a1 w hT hA hB HC
  · exact tells_000 k n s l m t c U a _ _ _ _ _ _ n0 n1 hs m0 m1 ht e1 e2 z1 z2 c0 c1 hU a0 a1 w hT hA hB HC
  · exact tells_001 k n s l m t c U a _ _ _ _ _ _ n0 n1 hs m0 m1 ht e1 e2 z1 z2 c0 c1 hU a0 a1 w hT hA hB HC
end Go.Proofs.YtomldmdnoalbiaaDoor
