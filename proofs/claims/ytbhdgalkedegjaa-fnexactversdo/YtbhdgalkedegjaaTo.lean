/- The law's copies of rows: each in new memory, known whole. -/
import Derived.Test.YtbhdgalkedegjaaMem
namespace Go.Proofs.Ytbhdgalkedegjaa
open Go.RowKit
set_option linter.unusedVariables false

end Go.Proofs.Ytbhdgalkedegjaa
