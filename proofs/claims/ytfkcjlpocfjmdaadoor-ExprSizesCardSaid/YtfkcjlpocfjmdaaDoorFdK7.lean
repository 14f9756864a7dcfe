/- What the feeds stand on, in a seat of another stage than 8. -/
import Derived.Test.YtfkcjlpocfjmdaaDoorLayX
import Derived.Test.YtfkcjlpocfjmdaaDoorTrB
namespace Go.Proofs.YtfkcjlpocfjmdaaDoor
abbrev mt : ByteArray := ⟨#[]⟩
abbrev V3 := Int × Int × ByteArray
end Go.Proofs.YtfkcjlpocfjmdaaDoor
