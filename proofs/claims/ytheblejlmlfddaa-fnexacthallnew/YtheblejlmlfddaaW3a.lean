/- The model's chapter 3: WorkOk, WorkRows and what they call. -/
import Derived.Test.YtheblejlmlfddaaW3s
import Derived.Test.YtheblejlmlfddaaW3m
import Derived.Test.YtheblejlmlfddaaS2b
import Derived.Test.YtheblejlmlfddaaS2w
import Derived.Test.YtheblejlmlfddaaB7
namespace Go.Proofs.Ytheblejlmlfddaa
open Go.RowKit
set_option linter.unusedVariables false
set_option maxRecDepth 100000

theorem fitAt {l : List V} (h : FitVs l) (t : Int) : FitR (atL l t) := by
 intro r hr
 obtain ⟨x, hx, rfl⟩ := List.mem_map.1 hr
 have := h x (List.mem_filter.1 hx).1
 exact ⟨this.1, this.2.1, this.2.2.1⟩

end Go.Proofs.Ytheblejlmlfddaa
