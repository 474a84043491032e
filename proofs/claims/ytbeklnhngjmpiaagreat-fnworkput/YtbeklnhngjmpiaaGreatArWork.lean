/- Work: the laws' copies, sizes, comparisons and marks; the argument opened. -/
import Derived.Test.YtbeklnhngjmpiaaGreatA5
import Derived.Test.YtbeklnhngjmpiaaGreatA6
namespace Go.Proofs.YtbeklnhngjmpiaaGreat
open Go.ChangeShapes Go.WideShapes Go.ChangeAt Go.RowKit Go.Deep
set_option linter.unusedVariables false
set_option maxRecDepth 100000

/-- two are one -/
noncomputable def sameW (z z' : Int) (l l' : List X) : Bool := decide (z = z') && eqXs l l'
theorem sameW_refl (z : Int) (l : List X) : sameW z z l l = true := by unfold sameW; rw [eqXs_yes rfl]; simp
end Go.Proofs.YtbeklnhngjmpiaaGreat
