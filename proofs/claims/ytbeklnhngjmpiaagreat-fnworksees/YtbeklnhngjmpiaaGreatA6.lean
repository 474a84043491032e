/- Slices of Write: how they lie in memory; the laws' own copies, sizes, comparisons and marks of them.
A struct Write of the laws, read off its cells; a slice of them as an argument. -/
import Derived.Test.YtbeklnhngjmpiaaGreatA5
import Derived.Test.YtbeklnhngjmpiaaGreatA4
import Derived.Deep.RegionHeld3
namespace Go.Proofs.YtbeklnhngjmpiaaGreat
open Go.RowKit
set_option linter.unusedVariables false

structure X where
 k : ByteArray
 n : Int
 g : Bool

def csX (x : X) : List Value := [.string x.k, .int .i64 x.n, .bool x.g]
def agX (x : X) : Value := .agg #[.string x.k, .int .i64 x.n, .bool x.g]
instance elX : Elt X where
 T := 52
 wd := 3
 byt := 32
 zero := .agg #[.string ByteArray.empty, .int .i64 0, .bool false]
 cs := csX
 len := fun _ => rfl
 pos := by omega
 one := by
  intro a u hu
  simp only [csX, List.mem_cons, List.not_mem_nil, or_false] at hu
  rcases hu with rfl | rfl | rfl <;> rfl
 info := by kernel_rfl
 zsize := rfl
 small := by omega

section
variable {w w' : World} {B : Nat} {A : Option Addr} {l : List X}
theorem RdG.atX (h : RdG w B A l) {i : Nat} (hi : i < l.length) : ∃ b o, A = some ⟨b, o, none⟩ ∧ b < B ∧ w.cell? ⟨b, o + i * 3, none⟩ = some (.string l[i].k) ∧ w.cell? ⟨b, o + i * 3 + 1, none⟩ = some (.int .i64 l[i].n) ∧ w.cell? ⟨b, o + i * 3 + 2, none⟩ = some (.bool l[i].g) := by
 obtain ⟨b, o, e, hb, h1⟩ := h.at_ hi
 exact ⟨b, o, e, hb, h1 0 _ rfl, h1 1 _ rfl, h1 2 _ rfl⟩
theorem RdG.fixX (h : RdG w B A l) {b o : Nat} (e : A = some ⟨b, o, none⟩) {i : Nat} (hi : i < l.length) : w.cell? ⟨b, o + i * 3, none⟩ = some (.string l[i].k) ∧ w.cell? ⟨b, o + i * 3 + 1, none⟩ = some (.int .i64 l[i].n) ∧ w.cell? ⟨b, o + i * 3 + 2, none⟩ = some (.bool l[i].g) := by
 obtain ⟨hb, h1⟩ := h.fix e hi
 exact ⟨h1 0 _ rfl, h1 1 _ rfl, h1 2 _ rfl⟩
end
theorem rdOneX (w : World) (x : X) (t : TypeId) : RdG (w.alloc (.cells #[.string x.k, .int .i64 x.n, .bool x.g] t)) (w.alloc (.cells #[.string x.k, .int .i64 x.n, .bool x.g] t)).heap.size (some ⟨w.heap.size, 0, none⟩) [x] :=
 rdOneG w x _ t rfl

/-- it fits Go's kinds -/
def FitX (x : X) : Prop := x.k.size ≤ maxLen ∧ -9223372036854775808 ≤ x.n ∧ x.n ≤ 9223372036854775807
def FitXs (l : List X) : Prop := ∀ r ∈ l, FitX r

open Classical in
noncomputable def eqX (a b : X) : Bool := decide (a = b)
theorem eqX_yes {a b : X} (h : a = b) : eqX a b = true := by unfold eqX; simp [h]
theorem eqX_no {a b : X} (h : a ≠ b) : eqX a b = false := by unfold eqX; simp [h]
theorem eqX_iff {a b : X} : eqX a b = true ↔ a = b := by unfold eqX; simp
open Classical in
noncomputable def eqXs (a b : List X) : Bool := decide (a = b)
theorem eqXs_yes {a b : List X} (h : a = b) : eqXs a b = true := by unfold eqXs; simp [h]
theorem eqXs_no {a b : List X} (h : a ≠ b) : eqXs a b = false := by unfold eqXs; simp [h]
end Go.Proofs.YtbeklnhngjmpiaaGreat

namespace Go.Proofs.YtbeklnhngjmpiaaGreat
open Go.ChangeShapes Go.WideShapes Go.ChangeAt Go.RowKit Go.Deep
set_option linter.unusedVariables false
set_option maxRecDepth 100000

end Go.Proofs.YtbeklnhngjmpiaaGreat
