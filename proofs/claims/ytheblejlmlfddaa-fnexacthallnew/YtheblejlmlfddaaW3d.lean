/- The model's chapter 3: WorkPut. -/
import Derived.Test.YtheblejlmlfddaaW3b
import Derived.Test.YtheblejlmlfddaaW3c
namespace Go.Proofs.Ytheblejlmlfddaa
open Go.RowKit
set_option linter.unusedVariables false
set_option maxRecDepth 100000

end Go.Proofs.Ytheblejlmlfddaa
