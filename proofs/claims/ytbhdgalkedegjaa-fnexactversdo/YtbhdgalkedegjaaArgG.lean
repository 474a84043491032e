/- Arguments that are slices of flat structs, or structs that hold one, opened. -/
import Derived.Test.YtbhdgalkedegjaaGen
import Derived.Test.YtbhdgalkedegjaaRows
import Derived.ProofKit
import Derived.OpenShut
import Derived.ShutString
import Derived.ChangeOld
import Derived.Below
import Derived.Deep.SlicePairs
namespace Go.Proofs.Ytbhdgalkedegjaa
open Go.ChangeShapes Go.WideShapes Go.ChangeAt Go.RowKit Go.Deep
set_option linter.unusedVariables false

theorem list_of {α : Type} {Q : Nat → α → Prop} : (n : Nat) → (∀ i, i < n → ∃ r, Q i r) → ∃ l : List α, l.length = n ∧ ∀ i r, l[i]? = some r → Q i r
  | 0, _ => ⟨[], rfl, fun i r h => by simp at h⟩
  | n + 1, h => by
    obtain ⟨l, hl, hq⟩ := list_of n fun i hi => h i (by omega)
    obtain ⟨r, hr⟩ := h n (by omega)
    refine ⟨l ++ [r], by simp [hl], fun i x hx => ?_⟩
    by_cases hi : i < l.length
    · rw [List.getElem?_append_left hi] at hx
      exact hq i x hx
    · rw [List.getElem?_append_right (by omega)] at hx
      have h0 : i - l.length = 0 := by have := (List.getElem?_eq_some_iff.1 hx).1; simp at this; omega
      rw [h0] at hx
      have e : r = x := by simpa using hx
      subst e
      rw [show i = n from by omega]
      exact hr

def FitI (z : Int) : Prop := -9223372036854775808 ≤ z ∧ z ≤ 9223372036854775807
theorem fitI_of {z : Int} (h : (Lit.int .i64 z).wf = true) : FitI z := by
  simpa [FitI, Lit.wf, IntKind.min, IntKind.max, IntKind.signed, IntKind.bits] using h

theorem openG {α : Type} [E : Elt α] {H : Type} {enc : TypeId × Value → H} {W : World} {t eL : TypeId} (ht : Try.prog.underlying t = some (.slice eL)) (hce : Try.prog.cellsOf eL = Elt.wd α) (Fit : α → Prop)
    (dec : ∀ n cs' x, DataW.trod enc Try.prog W 0 (fun _ => true) true n eL cs' = some x → ∃ a : α, cs' = Elt.cs a ∧ Fit a) {fuel : Nat} {v : Value} {x : DataW H × List MemPlace}
    (h : DataW.trod enc Try.prog W 0 (fun _ => true) true fuel t [v] = some x) :
    ∃ (A : Option Addr) (c : Nat) (l : List α), v = .slice A l.length c ∧ l.length ≤ c ∧ c ≤ maxLen ∧ (∀ r ∈ l, Fit r) ∧ RdG W W.heap.size A l := by
  rcases open_slice ht h with ⟨hcs, _⟩ | ⟨a, len, cap, m, n, D, Pl, hcs, hb, hl, hm, hmm, _, hx⟩
  · simp only [List.cons.injEq, and_true] at hcs
    subst hcs
    exact ⟨none, 0, [], rfl, Nat.le_refl _, by unfold maxLen; omega, fun r hr => by simp at hr, RdG.nil⟩
  · simp only [List.cons.injEq, and_true] at hcs
    subst hcs
    simp at hmm
    subst hmm
    by_cases h0 : len = 0
    · subst h0
      exact ⟨some a, m, [], rfl, by simp, hm, fun r hr => by simp at hr, RdG.nil⟩
    obtain ⟨b, o, ha, hbl⟩ : ∃ b o, a = ⟨b, o, none⟩ ∧ b < W.heap.size := by
      obtain ⟨cs', h1, h2⟩ := hx 0 (by omega)
      obtain ⟨r, rfl, hf⟩ := dec _ _ _ h2
      rw [hce] at h1
      obtain ⟨_, hlen, hcell⟩ := World.cells?_some h1
      have g0 := hcell 0 E.pos
      have hp : 0 < (Elt.cs r).length := by rw [E.len]; exact E.pos
      rw [List.getElem?_eq_getElem hp, Nat.zero_mul] at g0
      obtain ⟨b, o, spot⟩ := a
      have hspot : spot = none := by simpa [Addr.add] using World.cell?_spot g0
      subst hspot
      have hbl : b < W.heap.size := by
        have := block_lt_of_cell g0
        simpa [Addr.add] using this
      exact ⟨b, o, rfl, hbl⟩
    subst ha
    obtain ⟨l, hll, hq⟩ := list_of (Q := fun i (r : α) => Fit r ∧ ∀ j u, (Elt.cs r)[j]? = some u → W.cell? ⟨b, o + i * Elt.wd α + j, none⟩ = some u) len fun i hi => by
      obtain ⟨cs', h1, h2⟩ := hx i (by omega)
      obtain ⟨r, rfl, hf⟩ := dec _ _ _ h2
      rw [hce] at h1
      obtain ⟨_, hlen, hcell⟩ := World.cells?_some h1
      refine ⟨r, hf, fun j u hj => ?_⟩
      have g := hcell j (csG_lt hj)
      rw [hj, add_add, add_plain] at g
      rw [Nat.add_assoc]
      exact g
    refine ⟨some ⟨b, o, none⟩, m, l, by rw [hll], by omega, hm, fun r hr => ?_, fun i r hi => ?_⟩
    · obtain ⟨i, hi, rfl⟩ := List.getElem_of_mem hr
      exact (hq i _ (List.getElem?_eq_getElem hi)).1
    · exact ⟨b, o, rfl, hbl, (hq i r hi).2⟩

end Go.Proofs.Ytbhdgalkedegjaa
