/- The law's own helpers over rows: sizes, copies, comparisons. -/
import Derived.Test.YtbhdgalkedegjaaMem
namespace Go.Proofs.Ytbhdgalkedegjaa
open Go.RowKit
set_option linter.unusedVariables false

def szR (left : Int) (k : Nat) : Int := if left < (k : Int) then -1 else left - k
theorem szR_neg {left : Int} {k : Nat} (h : left < (k : Int)) : szR left k = -1 := if_pos h
theorem szR_pos {left : Int} {k : Nat} (h : (k : Int) ≤ left) : szR left k = left - k := if_neg (by omega)

def total : List R → Nat
  | [] => 0
  | r :: l => 1 + r.1.size + total l

theorem total_append (a b : List R) : total (a ++ b) = total a + total b := by
  induction a with
  | nil => simp [total]
  | cons r a ih => simp [total, ih]; omega
theorem total_len (l : List R) : l.length ≤ total l := by
  induction l with
  | nil => simp [total]
  | cons r a ih => simp [total]; omega
theorem total_take_succ (l : List R) (k : Nat) (h : k < l.length) : total (l.take (k + 1)) = total (l.take k) + 1 + l[k].1.size := by
  rw [List.take_succ_eq_append_getElem h, total_append]; simp [total]; omega
theorem total_take_le (l : List R) (k : Nat) : total (l.take k) ≤ total l := by
  have h := total_append (l.take k) (l.drop k)
  rw [List.take_append_drop] at h; omega
theorem total_take_ge (l : List R) (k : Nat) : total (l.take k) + (l.length - k) ≤ total l := by
  have h := total_append (l.take k) (l.drop k)
  have h2 := total_len (l.drop k)
  rw [List.take_append_drop] at h; rw [List.length_drop] at h2; omega

end Go.Proofs.Ytbhdgalkedegjaa
