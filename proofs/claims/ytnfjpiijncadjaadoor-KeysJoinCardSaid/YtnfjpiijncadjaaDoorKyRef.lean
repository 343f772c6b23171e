/- Contracts: the chapter's words of a line; two lists of texts. -/
import Derived.Test.YtnfjpiijncadjaaDoorKyWords
import Derived.Deep.RegionHeld3
namespace Go.Proofs.YtnfjpiijncadjaaDoor
open Go.RowKit
set_option linter.unusedVariables false

end Go.Proofs.YtnfjpiijncadjaaDoor
