/- The model's chapter 3: WorkRows, WorkNew, WorkEnd. -/
import Derived.Test.YtheblejlmlfddaaW3a
namespace Go.Proofs.Ytheblejlmlfddaa
open Go.RowKit
set_option linter.unusedVariables false
set_option maxRecDepth 100000

theorem late_succ {l : List V} {a : Int} {ws : List X} {k : Nat} (hk : k < ws.length) : lateB l a (ws.take (k + 1)) = (lateB l a (ws.take k) || decide (a < lastL l ws[k].k)) := by
 unfold lateB; rw [List.take_succ_eq_append_getElem hk, List.any_append]; simp
theorem late_in {l : List V} {a : Int} {ws : List X} {k : Nat} (hk : k < ws.length) (h : a < lastL l ws[k].k) : lateB l a ws = true := by
 unfold lateB; rw [List.any_eq_true]; exact ⟨ws[k], List.getElem_mem hk, decide_eq_true h⟩

noncomputable def newA (z : Int) (l : List V) : Int := if versB z l then z else 0
end Go.Proofs.Ytheblejlmlfddaa
