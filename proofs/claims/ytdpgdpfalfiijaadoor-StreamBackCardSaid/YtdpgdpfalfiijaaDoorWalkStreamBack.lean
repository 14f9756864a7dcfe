/- StreamBack: the walk. -/
import Derived.Test.YtdpgdpfalfiijaaDoorBackA
import Derived.Test.YtdpgdpfalfiijaaDoorBackB
namespace Go.Proofs.YtdpgdpfalfiijaaDoor
open Go.ChangeShapes Go.WideShapes Go.ChangeAt Go.RowKit
theorem walk_StreamBack (a : Int) (v : Value) (l : List UInt8) (b : Int) (u : Value) (k : List UInt8) (same : Bool) (w : World) (a0 : 0 ≤ a) (a1 : a ≤ 255) (hv : BytesAt w v l) (hl : l.length ≤ 140737488351232) (b0 : 0 ≤ b) (b1 : b ≤ 255) (hu : BytesAt w u k) (hk : k.length ≤ 140737488351232) (hT : Tab w) :
    Calls Tryd.prog 5 #[.int .u8 a, v, .int .u8 b, u, .bool same] w fun e w' => e = .returned (.bool true) ∧ Below w.heap.size w w' := by
  obtain ⟨p, rfl⟩ := Int.eq_ofNat_of_zero_le a0
  obtain ⟨q, rfl⟩ := Int.eq_ofNat_of_zero_le b0
  cases same
  · exact sback_A p q v u l k w (by omega) (by omega) hv hl hu hk hT
  · exact sback_B p q v u l k w (by omega) (by omega) hv hl hu hk hT
end Go.Proofs.YtdpgdpfalfiijaaDoor
