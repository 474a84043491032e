/- Rows put and taken away: the model's and the program's.
The program's splice, put and cut over rows.
RowsPut and RowsCut: the model's and the program's.
What is drawn off a code: some key, some number, some rows.
Keys, numbers and rows that are drawn. -/
import Derived.Test.YtheblejlmlfddaaA2
import Derived.Deep.RegionHeld3
import Derived.Test.YtheblejlmlfddaaA1
namespace Go.Proofs.Ytheblejlmlfddaa
open Go.RowKit
set_option linter.unusedVariables false

/-- a number put under a key -/
def putL (l : List R) (key : ByteArray) (num : Int) : List R := l.take (posN l key) ++ [(key, num)] ++ l.drop (if hasB l key then posN l key + 1 else posN l key)

theorem hasB_key {l : List R} {key : ByteArray} (h : hasB l key = true) : (l[posN l key]'(hasB_lt h)).1 = key := by
 rw [hasB_at (posN_pos l key) (hasB_lt h)] at h
 exact str_eq h
theorem putL_has {l : List R} {key : ByteArray} {num : Int} (h : hasB l key = true) : putL l key num = l.set (posN l key) ((l[posN l key]'(hasB_lt h)).1, num) := by
 unfold putL
 rw [h, hasB_key h, List.set_eq_take_append_cons_drop, if_pos (hasB_lt h)]
 simp

end Go.Proofs.Ytheblejlmlfddaa

namespace Go.Proofs.Ytheblejlmlfddaa
open Go.RowKit
set_option linter.unusedVariables false

end Go.Proofs.Ytheblejlmlfddaa

namespace Go.Proofs.Ytheblejlmlfddaa
open Go.RowKit
set_option linter.unusedVariables false

noncomputable def putV (l : List R) (key : ByteArray) (num : Int) : List R := if rowsB l then (if rowsB (putL l key num) then putL l key num else l) else []
noncomputable def putOk (l : List R) (key : ByteArray) (num : Int) : Bool := rowsB l && rowsB (putL l key num)

theorem FitR.putL {l : List R} (h : FitR l) {key : ByteArray} {num : Int} (hk : FitR [(key, num)]) : FitR (putL l key num) := by
 intro r hr
 unfold Proofs.Ytheblejlmlfddaa.putL at hr
 simp only [List.append_assoc, List.mem_append] at hr
 rcases hr with hr | hr | hr
 ·
  exact h r (List.mem_of_mem_take hr)
 ·
  exact hk r hr
 ·
  exact h r (List.mem_of_mem_drop hr)
theorem putL_length (l : List R) (key : ByteArray) (num : Int) : (putL l key num).length ≤ l.length + 1 := by
 have hp := (posN_pos l key).le
 unfold putL
 simp
 split <;> omega

theorem putV_length (l : List R) (key : ByteArray) (num : Int) : (putV l key num).length ≤ l.length + 1 := by
 have := putL_length l key num
 unfold putV
 split
 ·
  split <;> omega
 ·
  simp

end Go.Proofs.Ytheblejlmlfddaa

namespace Go.Proofs.Ytheblejlmlfddaa
open Go.RowKit
set_option linter.unusedVariables false

end Go.Proofs.Ytheblejlmlfddaa

namespace Go.Proofs.Ytheblejlmlfddaa
open Go.RowKit
set_option linter.unusedVariables false

def FitZ (z : Int) : Prop := -9223372036854775808 ≤ z ∧ z ≤ 9223372036854775807

def ssBent : List ByteArray := [⟨#[]⟩, ⟨#[97, 98, 99]⟩, ⟨#[65]⟩, ⟨#[97, 49]⟩, ⟨#[32]⟩]
def ssKeys : List ByteArray := [⟨#[97]⟩, ⟨#[98]⟩, ⟨#[99]⟩, ⟨#[100]⟩, ⟨#[97, 98]⟩, ⟨#[97, 99]⟩, ⟨#[98, 98]⟩, ⟨#[122]⟩, ⟨#[101]⟩, ⟨#[102]⟩, ⟨#[103]⟩, ⟨#[104]⟩]
theorem ssBent_small : ∀ s ∈ ssBent, s.size ≤ 3 := by
 intro s hs
 simp only [ssBent, List.mem_cons, List.not_mem_nil, or_false] at hs
 rcases hs with rfl | rfl | rfl | rfl | rfl <;> decide
theorem ssKeys_small : ∀ s ∈ ssKeys, s.size ≤ 3 := by
 intro s hs
 simp only [ssKeys, List.mem_cons, List.not_mem_nil, or_false] at hs
 rcases hs with rfl | rfl | rfl | rfl | rfl | rfl | rfl | rfl | rfl | rfl | rfl | rfl <;> decide
def zsBent : List Int := [1000, -1000, 9223372036854775807, -9223372036854775808]
def zsNums : List Int := [0, 1, 2, 3, -1, -7, 40, 500, 999, -999]
theorem zsBent_fit : ∀ z ∈ zsBent, FitZ z := by
 intro z hz
 simp only [zsBent, List.mem_cons, List.not_mem_nil, or_false] at hz
 unfold FitZ
 omega
theorem zsNums_fit : ∀ z ∈ zsNums, FitZ z := by
 intro z hz
 simp only [zsNums, List.mem_cons, List.not_mem_nil, or_false] at hz
 unfold FitZ
 omega

theorem grown_alloc {a w : World} {g : Nat} (h : a.grownBy w (some g)) (o : Obj) : a.grownBy (w.alloc o) (some g) := grown_call h (below_alloc (Below.refl _ _) o)

end Go.Proofs.Ytheblejlmlfddaa
