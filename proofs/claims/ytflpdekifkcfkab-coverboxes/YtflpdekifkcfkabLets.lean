/- eval.Lets: what a filter lets through. -/
import Derived.Test.YtflpdekifkcfkabLeaves
import Derived.Deep.RegionHeld3
namespace Go.Proofs.Ytflpdekifkcfkab
open Go.RowKit
set_option linter.unusedVariables false

end Go.Proofs.Ytflpdekifkcfkab
