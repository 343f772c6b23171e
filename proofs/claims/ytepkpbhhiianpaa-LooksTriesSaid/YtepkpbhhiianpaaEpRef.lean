/- The chapter's answers on epochs: the same words. -/
import Derived.Test.YtepkpbhhiianpaaEpMath
namespace Go.Proofs.Ytepkpbhhiianpaa
open Go.RowKit
set_option linter.unusedVariables false

end Go.Proofs.Ytepkpbhhiianpaa
