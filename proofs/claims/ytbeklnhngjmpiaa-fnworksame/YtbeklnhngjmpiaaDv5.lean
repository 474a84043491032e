/- The whole draws of chapter 2. -/
import Derived.Test.YtbeklnhngjmpiaaDv4
namespace Go.Proofs.Ytbeklnhngjmpiaa
open Go.RowKit
set_option linter.unusedVariables false
set_option maxRecDepth 100000

def DrawnV (w : World) (e : Ending) (w' : World) : Prop := ∃ z v l, e = .returned (.agg #[.int .i64 z, v]) ∧ OwnG w' w.heap.size v l ∧ FitVs l ∧ (-5 ≤ z ∧ z ≤ 50) ∧ l.length ≤ 70 ∧ Below w.heap.size w w'
def DrawnVT (w : World) (e : Ending) (w' : World) : Prop := ∃ z v l t, e = .returned (.tuple #[.agg #[.int .i64 z, v], .int .i64 t]) ∧ OwnG w' w.heap.size v l ∧ FitVs l ∧ (-5 ≤ z ∧ z ≤ 50) ∧ l.length ≤ 70 ∧ FitI t ∧ Below w.heap.size w w'
def DrawnVS (w : World) (e : Ending) (w' : World) : Prop := ∃ z v l s, e = .returned (.tuple #[.agg #[.int .i64 z, v], .string s]) ∧ OwnG w' w.heap.size v l ∧ FitVs l ∧ (-5 ≤ z ∧ z ≤ 50) ∧ l.length ≤ 70 ∧ s.size ≤ maxLen ∧ Below w.heap.size w w'
def DrawnVX (w : World) (e : Ending) (w' : World) : Prop := ∃ z v l u lx, e = .returned (.tuple #[.agg #[.int .i64 z, v], u]) ∧ OwnG w' w.heap.size v l ∧ FitVs l ∧ (-5 ≤ z ∧ z ≤ 50) ∧ l.length ≤ 70 ∧ OwnG w' w.heap.size u lx ∧ FitXs lx ∧ lx.length ≤ 8 ∧ Below w.heap.size w w'
theorem RdB.next {w w' : World} {A : Option Addr} {n : Nat} (h : RdB w w.heap.size A n) (hb : Below w.heap.size w w') : RdB w' w'.heap.size A n := fun i hi => by
  obtain ⟨b, o, z, e, hbb, hc, hz⟩ := h i hi
  exact ⟨b, o, z, e, Nat.lt_of_lt_of_le hbb hb.size, (hb.cell (p := ⟨b, o + i, none⟩) hbb).trans hc, hz⟩
def tz (z : Int) (a b : Nat) : List Int := [z, (a : Int), (b : Int), 0, -1, z + 1, 9223372036854775807]
theorem tz_fit {z : Int} {a b : Nat} (h1 : -5 ≤ z) (h2 : z ≤ 50) (ha : a ≤ 1000) (hb : b ≤ 1000) : ∀ y ∈ tz z a b, FitI y := by
  intro y hy
  simp only [tz, List.mem_cons, List.not_mem_nil, or_false] at hy
  unfold FitI; omega

end Go.Proofs.Ytbeklnhngjmpiaa
