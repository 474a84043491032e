/- The model's l3Put: one thing more, in its place. -/
import Derived.Test.YtheblejlmlfddaaW3a
namespace Go.Proofs.Ytheblejlmlfddaa
open Go.RowKit
set_option linter.unusedVariables false
set_option maxRecDepth 100000

def RetS (w : World) (ws : List X) (e : Ending) (w' : World) : Prop := ∃ v, e = .returned v ∧ OwnG w' w.heap.size v ws ∧ Below w.heap.size w w'
theorem putT_len (x : X) (ws : List X) (k : Nat) : (putT x (ws.take k)).1.length ≤ 2 * ws.length := by
 have h := putT_length x (ws.take k) ([], false)
 rw [List.length_take] at h
 unfold putT
 simp only [List.length_nil] at h
 omega
end Go.Proofs.Ytheblejlmlfddaa
