/- An argument that is a slice of rows, opened: it reads as a list of keys and numbers. -/
import Derived.Test.YtabpepddbkipiaaMem
import Derived.Test.YtabpepddbkipiaaRows
import Derived.ProofKit
import Derived.OpenShut
import Derived.ShutString
import Derived.ChangeOld
import Derived.Below
import Derived.Deep.SlicePairs
namespace Go.Proofs.Ytabpepddbkipiaa
open Go.ChangeShapes Go.WideShapes Go.ChangeAt Go.RowKit Go.Deep
set_option linter.unusedVariables false

def strOf : Value → ByteArray | .string s => s | _ => ByteArray.empty
theorem cellsLawRow : Try.prog.cellsOf 61 = 2 := by kernel_rfl
theorem cells1a : Try.prog.cellsOf 9 = 1 := by kernel_rfl
theorem cells1b : Try.prog.cellsOf 3 = 1 := by kernel_rfl
theorem structLawRow : ∃ f0 f1 : Field, Try.prog.underlying 61 = some (.struct #[f0, f1]) ∧ f0.offset = 0 ∧ f1.offset = 1 ∧ f0.type = 9 ∧ f1.type = 3 := by
  have h := Try.underlying61
  exact ⟨_, _, h, rfl, rfl, rfl, rfl⟩

theorem openRows {H : Type} {enc : TypeId × Value → H} {W : World} {r : Reach} {b0 : Nat} {v : Value} {d : DataW H} {p : List MemPlace}
    (hv : Value.okWide Try.prog W r b0 23 v) (h : DataW.Trod enc Try.prog W 0 (fun _ => true) true 23 v d p) :
    ∃ (A : Option Addr) (c : Nat) (l : List R), v = .slice A l.length c ∧ l.length ≤ c ∧ c ≤ maxLen ∧ FitR l ∧ Rd W W.heap.size A l := by
  obtain ⟨a0, len0, cap0, rfl⟩ := okWide_slice Try.underlying23 hv
  obtain ⟨f0, f1, hs, ho0, ho1, ht0, ht1⟩ := structLawRow
  have lt0 : ∀ x ∈ p, x.block < W.heap.size := by obtain ⟨m, hm⟩ := h; exact DataW.trod_lt m _ _ _ hm
  obtain ⟨fuel, hf⟩ := h
  rcases open_slice_pairs Try.underlying23 hs cellsLawRow ho0 ho1 (by rw [ht0]; exact cells1a) (by rw [ht1]; exact cells1b) hf with ⟨hcs, _⟩ | ⟨a, len, cap, m, n, V0, V1, D0, D1, P0, P1, hcs, _, hl, hm, hmm, hx, hi⟩
  · simp [Value.cells] at hcs
    obtain ⟨rfl, rfl, rfl⟩ := hcs
    exact ⟨none, 0, [], rfl, Nat.le_refl _, by unfold maxLen; omega, fun r hr => by simp at hr, Rd.nil⟩
  · simp [Value.cells] at hcs
    obtain ⟨rfl, rfl, rfl⟩ := hcs
    simp at hmm
    subst hmm
    have each : ∀ i, i < len0 → ∃ s q, V0 i = .string s ∧ V1 i = .int .i64 q ∧ s.size ≤ maxLen ∧ (Lit.int .i64 q).wf = true := by
      intro i hlt
      obtain ⟨_, _, h3, h4⟩ := hi i (by omega)
      rw [ht0] at h3
      rw [ht1] at h4
      obtain ⟨s, e1, _, e2⟩ := DataW.trod_string Try.underlying9 h3
      obtain ⟨q, e3, _, e4⟩ := DataW.trod_int Try.underlying3 h4
      simp at e1 e3
      exact ⟨s, q, e1, e3, e2, e4⟩
    refine ⟨some a, m, (List.range len0).map fun i => (strOf (V0 i), intOf (V1 i)), by simp, by simpa using hl, hm, ?_, ?_⟩
    · intro r hr
      obtain ⟨i, hi1, rfl⟩ := List.mem_map.1 hr
      obtain ⟨s, q, e1, e2, e3, e4⟩ := each i (List.mem_range.1 hi1)
      rw [e1, e2]
      refine ⟨e3, ?_⟩
      simpa [strOf, intOf, Lit.wf, IntKind.min, IntKind.max, IntKind.signed, IntKind.bits] using e4
    · intro i r hr
      have hlt : i < len0 := by
        have := (List.getElem?_eq_some_iff.1 hr).1
        simpa using this
      have er : (strOf (V0 i), intOf (V1 i)) = r := by
        rw [List.getElem?_map, List.getElem?_range hlt] at hr
        simpa using hr
      subst er
      obtain ⟨s, q, e1, e2, e3, e4⟩ := each i hlt
      obtain ⟨h1, h2, _, _⟩ := hi i (by omega)
      obtain ⟨g1, _, _, _⟩ := hi 0 (by omega)
      obtain ⟨b, off, spot⟩ := a
      have hspot : spot = none := by simpa [Addr.add] using World.cell?_spot g1
      subst hspot
      have hb : b < W.heap.size := by
        have := block_lt_of_cell g1
        simpa [Addr.add] using this
      rw [e1] at h1
      rw [e2] at h2
      refine ⟨b, off, rfl, hb, ?_, ?_⟩
      · rw [e1]
        simp only [strOf]
        rw [← h1]
        congr 1
        unfold Addr.add
        split
        · simp
        · rfl
      · rw [e2]
        simp only [intOf]
        rw [← h2]
        rfl

end Go.Proofs.Ytabpepddbkipiaa
