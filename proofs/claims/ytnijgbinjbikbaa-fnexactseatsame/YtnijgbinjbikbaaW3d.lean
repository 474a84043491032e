/- The model's chapter 3: WorkPut. -/
import Derived.Test.YtnijgbinjbikbaaW3b
import Derived.Test.YtnijgbinjbikbaaW3c
namespace Go.Proofs.Ytnijgbinjbikbaa
open Go.RowKit
set_option linter.unusedVariables false
set_option maxRecDepth 100000

end Go.Proofs.Ytnijgbinjbikbaa
