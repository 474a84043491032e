/- The model's l2Do and VersDo.
The model's VersDo.
Chapter 2, plain mathematics: what the laws say of histories. -/
import Derived.Test.YtheblejlmlfddaaC2r
namespace Go.Proofs.Ytheblejlmlfddaa
open Go.RowKit
set_option linter.unusedVariables false
set_option maxRecDepth 100000

theorem typesVV : (24 : TypeId) ≠ 94 := by decide
end Go.Proofs.Ytheblejlmlfddaa

namespace Go.Proofs.Ytheblejlmlfddaa
open Go.RowKit
set_option linter.unusedVariables false
set_option maxRecDepth 100000

end Go.Proofs.Ytheblejlmlfddaa

namespace Go.Proofs.Ytheblejlmlfddaa
open Go.RowKit
set_option linter.unusedVariables false

theorem versP_mem {z : Int} {l : List V} (h : VersP z l) {x : V} (hx : x ∈ l) : verB z x = true := by
 obtain ⟨i, hi, rfl⟩ := List.getElem_of_mem hx
 exact h.each i hi
theorem verB_f {z : Int} {x : V} (h : verB z x = true) : 1 ≤ x.f ∧ x.f ≤ z ∧ (x.t = 0 ∨ x.f < x.t ∧ x.t ≤ z) := by
 unfold verB at h
 simp only [Bool.and_eq_true, Bool.or_eq_true, decide_eq_true_eq] at h
 omega
/-- what stands at the last time stands later -/
theorem vis_later {z t : Int} {x : V} (h : verB z x = true) (ht : z ≤ t) : visB t x = visB z x := by
 have := verB_f h
 unfold visB
 rw [Bool.eq_iff_iff]
 simp only [Bool.and_eq_true, Bool.or_eq_true, decide_eq_true_eq]
 omega
theorem at_later {z t : Int} {l : List V} (h : ∀ x ∈ l, verB z x = true) (ht : z ≤ t) : atL l t = atL l z := by
 unfold atL
 rw [List.filter_congr (fun x hx => vis_later (h x hx) ht)]
theorem versAt_ok {z t : Int} {l : List V} (h : versB z l = true) (h0 : 0 ≤ t) (h1 : t ≤ z) : versAt z l t = atL l t := by
 unfold versAt
 rw [h]
 simp [h0, h1]
theorem none_do {z : Int} {l : List V} (h : doB z l [] = true) : doZ z l [] = z + 1 ∧ doL z l [] = l ∧ versB z l = true ∧ versB (z + 1) l = true ∧ versAt (z + 1) l (z + 1) = versAt z l z ∧ z < 40 := by
 have hb := h
 unfold doB at h
 simp only [Bool.and_eq_true] at h
 obtain ⟨⟨h1, h2⟩, h3⟩ := h
 have h3' : versB (z + 1) l = true := h3
 have hP := versB_iff.1 h1
 have hP' := versB_iff.1 h3'
 have hn := hP'.now
 have hn0 := hP.now0
 obtain ⟨e1, e2, e3⟩ := do_yes h1 h2 h3
 refine ⟨e2, e3, h1, h3', ?_, by omega⟩
 rw [versAt_ok h3' (by omega) (by omega), versAt_ok h1 hn0 (by omega)]
 exact at_later (fun x hx => versP_mem hP hx) (by omega)

end Go.Proofs.Ytheblejlmlfddaa
