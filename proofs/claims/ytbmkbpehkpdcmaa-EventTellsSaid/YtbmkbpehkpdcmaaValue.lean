/- Contracts of package value. -/
import Derived.Test.YtbmkbpehkpdcmaaValR
import Derived.Test.YtbmkbpehkpdcmaaVari
