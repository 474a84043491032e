/- WritesOk, of the model and of the program. -/
import Derived.Test.YtheblejlmlfddaaB1
import Derived.IntWalk
namespace Go.Proofs.Ytheblejlmlfddaa
open Go.RowKit
set_option linter.unusedVariables false
set_option maxRecDepth 100000

def writeB (x : X) : Bool := keyB x.k && numB x.n && (!x.g || decide (x.n = 0))
def AscX (l : List X) : Prop := ∀ i (h : i + 1 < l.length), lt l[i].k l[i + 1].k = true
structure WritesP (l : List X) : Prop where
 len : l.length ≤ 6
 each : ∀ i (h : i < l.length), writeB l[i] = true
 asc : AscX l
open Classical in
noncomputable def writesB (l : List X) : Bool := decide (WritesP l)
theorem writesB_yes {l : List X} (h : WritesP l) : writesB l = true := by unfold writesB; simp [h]
theorem writesB_no {l : List X} (h : ¬ WritesP l) : writesB l = false := by unfold writesB; simp [h]
theorem writesB_iff {l : List X} : writesB l = true ↔ WritesP l := by unfold writesB; simp
open Classical in
noncomputable def ascXB (l : List X) : Bool := decide (AscX l)
theorem ascXB_yes {l : List X} (h : AscX l) : ascXB l = true := by unfold ascXB; simp [h]
theorem ascXB_no {l : List X} (h : ¬ AscX l) : ascXB l = false := by unfold ascXB; simp [h]

end Go.Proofs.Ytheblejlmlfddaa
