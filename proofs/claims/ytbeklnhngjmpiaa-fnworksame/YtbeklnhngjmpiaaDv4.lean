/- The model's l2Bent: a history that may be bent. -/
import Derived.Test.YtbeklnhngjmpiaaDv3
namespace Go.Proofs.Ytbeklnhngjmpiaa
open Go.RowKit
set_option linter.unusedVariables false
set_option maxRecDepth 100000

theorem FitVs.set {l : List V} (h : FitVs l) (k : Nat) {r : V} (hr : FitV r) : FitVs (l.set k r) := by
  intro x hx
  rcases List.mem_or_eq_of_mem_set hx with hx | rfl
  · exact h x hx
  · exact hr
def bn0 : List Int := [-1, 41, 40, 3]
def bn1 (z : Int) : List Int := [-1, 41, z - 1, 40]
def bn2 (z : Int) : List Int := [0, -1, z + 1, 1]
def bn3 (z f : Int) : List Int := [0, -1, z + 1, f]
def bn5 : List Int := [1000, 5]
def bs3 : List ByteArray := [⟨#[]⟩, ⟨#[122, 122]⟩, ⟨#[97]⟩]
theorem bs3_small : ∀ s ∈ bs3, s.size ≤ 3 := by
  intro s hs
  simp only [bs3, List.mem_cons, List.not_mem_nil, or_false] at hs
  rcases hs with rfl | rfl | rfl <;> decide
theorem bn0_z {k : Nat} : ∀ z ∈ bn0, -((k + 1 : Nat) : Int) ≤ z ∧ z ≤ 40 + ((k + 1 : Nat) : Int) := by
  intro z hz
  simp only [bn0, List.mem_cons, List.not_mem_nil, or_false] at hz
  omega
theorem bn1_z {k : Nat} {y : Int} (h1 : -(k : Int) ≤ y) (h2 : y ≤ 40 + k) : ∀ z ∈ bn1 y, -((k + 1 : Nat) : Int) ≤ z ∧ z ≤ 40 + ((k + 1 : Nat) : Int) := by
  intro z hz
  simp only [bn1, List.mem_cons, List.not_mem_nil, or_false] at hz
  omega
theorem bn2_z {y : Int} (h1 : -100 ≤ y) (h2 : y ≤ 100) : ∀ z ∈ bn2 y, FitI z := by
  intro z hz
  simp only [bn2, List.mem_cons, List.not_mem_nil, or_false] at hz
  unfold FitI; omega
theorem bn3_z {y f : Int} (h1 : -100 ≤ y) (h2 : y ≤ 100) (hf : FitI f) : ∀ z ∈ bn3 y f, FitI z := by
  intro z hz
  simp only [bn3, List.mem_cons, List.not_mem_nil, or_false] at hz
  unfold FitI at *; omega
theorem bn5_z : ∀ z ∈ bn5, FitI z := by
  intro z hz
  simp only [bn5, List.mem_cons, List.not_mem_nil, or_false] at hz
  unfold FitI; omega

end Go.Proofs.Ytbeklnhngjmpiaa
