/- The model's chapter 3: WorkOk, WorkRows and what they call. -/
import Derived.Test.YtlhbnncghcoldaaW3s
import Derived.Test.YtlhbnncghcoldaaW3m
import Derived.Test.YtlhbnncghcoldaaS2b
import Derived.Test.YtlhbnncghcoldaaS2w
import Derived.Test.YtlhbnncghcoldaaB7
namespace Go.Proofs.Ytlhbnncghcoldaa
open Go.RowKit
set_option linter.unusedVariables false
set_option maxRecDepth 100000

theorem fitAt {l : List V} (h : FitVs l) (t : Int) : FitR (atL l t) := by
 intro r hr
 obtain ⟨x, hx, rfl⟩ := List.mem_map.1 hr
 have := h x (List.mem_filter.1 hx).1
 exact ⟨this.1, this.2.1, this.2.2.1⟩

end Go.Proofs.Ytlhbnncghcoldaa
