/- StreamNames: the walk. -/
import Derived.Test.YtdpgdpfalfiijaaDoorNamesA
import Derived.Test.YtdpgdpfalfiijaaDoorNamesB
namespace Go.Proofs.YtdpgdpfalfiijaaDoor
open Go.ChangeShapes Go.WideShapes Go.ChangeAt Go.RowKit
theorem walk_StreamNames (v : Value) (l : List UInt8) (a b : Int) (w : World) (hv : BytesAt w v l) (hl : l.length ≤ 140737488351232) (a0 : 0 ≤ a) (a1 : a ≤ 255) (b0 : 0 ≤ b) (b1 : b ≤ 255) (hT : Tab w) :
    Calls Tryd.prog 4 #[v, .int .u8 a, .int .u8 b] w fun e w' => e = .returned (.bool true) ∧ Below w.heap.size w w' := by
  by_cases h : l.length ≤ 19
  · exact names_A v l a b w hv hl a0 a1 b0 b1 hT h
  · exact names_B v l a b w hv hl a0 a1 b0 b1 hT (by omega)
end Go.Proofs.YtdpgdpfalfiijaaDoor
