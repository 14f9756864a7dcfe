/- Small lemmas on strings. -/
import Derived.Test.YtbmkbpehkpdcmaaMem
import Derived.Lib.Strings
namespace Go.Proofs.Ytbmkbpehkpdcmaa
end Go.Proofs.Ytbmkbpehkpdcmaa
