/- Small lemmas on strings. -/
import Derived.Test.YtbbjlefldpgckaaMem
import Derived.Lib.Strings
namespace Go.Proofs.Ytbbjlefldpgckaa
end Go.Proofs.Ytbbjlefldpgckaa
