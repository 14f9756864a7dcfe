/- Small lemmas on strings. -/
import Derived.Test.YtojeiahconikeaaValue
import Derived.Lib.Strings
namespace Go.Proofs.Ytojeiahconikeaa
theorem toList_inj {s t : ByteArray} (h : s.toList = t.toList) : s = t := by
  rw [Lib.toList_data, Lib.toList_data] at h
  exact ByteArray.ext (Array.toList_inj.1 h)
theorem size0_eq {s t : ByteArray} (hs : s.size = 0) (ht : t.size = 0) : s = t := toList_inj (by rw [(size_nil s).1 hs, (size_nil t).1 ht])
end Go.Proofs.Ytojeiahconikeaa
