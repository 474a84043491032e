/- Chapter 2, the model: when all that ever stood is right. -/
import Derived.Test.YtheblejlmlfddaaB1
namespace Go.Proofs.Ytheblejlmlfddaa
open Go.RowKit
set_option linter.unusedVariables false
set_option maxRecDepth 100000

/-- all that ever stood is right -/
structure VersP (z : Int) (l : List V) : Prop where
 now0 : 0 ≤ z
 now : z ≤ 40
 len : l.length ≤ 60
 each : ∀ i (h : i < l.length), verB z l[i] = true
 ord : ∀ i (h : i + 1 < l.length), aheadB l[i] l[i + 1] = true
 few : ∀ t : Int, 0 ≤ t → t ≤ z → (atL l t).length ≤ 10
open Classical in
noncomputable def versB (z : Int) (l : List V) : Bool := decide (VersP z l)
theorem versB_yes {z : Int} {l : List V} (h : VersP z l) : versB z l = true := by unfold versB; simp [h]
theorem versB_no {z : Int} {l : List V} (h : ¬ VersP z l) : versB z l = false := by unfold versB; simp [h]
theorem versB_iff {z : Int} {l : List V} : versB z l = true ↔ VersP z l := by unfold versB; simp

end Go.Proofs.Ytheblejlmlfddaa
