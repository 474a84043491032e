/- The model's chapter 3: WorkPut. -/
import Derived.Test.YtlhbnncghcoldaaW3b
import Derived.Test.YtlhbnncghcoldaaW3c
namespace Go.Proofs.Ytlhbnncghcoldaa
open Go.RowKit
set_option linter.unusedVariables false
set_option maxRecDepth 100000

end Go.Proofs.Ytlhbnncghcoldaa
