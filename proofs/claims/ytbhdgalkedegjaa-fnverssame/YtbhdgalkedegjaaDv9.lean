/- The law FnVersSame: what it works out, and a slice of one element. -/
import Derived.Test.YtbhdgalkedegjaaDv7
import Derived.Test.YtbhdgalkedegjaaDv8
import Derived.Test.YtbhdgalkedegjaaS2s
namespace Go.Proofs.Ytbhdgalkedegjaa
open Go.RowKit
set_option linter.unusedVariables false
set_option maxRecDepth 100000

theorem sameB_symm (z y : Int) (l k : List V) : sameB z y l k = sameB y z k l := by
  rw [Bool.eq_iff_iff, sameB_iff, sameB_iff]
  exact ⟨fun h => ⟨h.1.symm, h.2.symm⟩, fun h => ⟨h.1.symm, h.2.symm⟩⟩
theorem sameB_later (z : Int) (l : List V) : sameB z (z + 1) l l = false := by
  cases h : sameB z (z + 1) l l
  · rfl
  · have := (sameB_iff.1 h).1; omega
open Classical in
/-- what the law has found of the first k -/
noncomputable def rightB (ws : List X) (k : Nat) : Bool := decide (ws.length ≤ 6 ∧ ∀ i (h : i < ws.length), i < k → writesB [ws[i]] = true ∧ (i = 0 ∨ lt (ws[i - 1]'(by omega)).k ws[i].k = true))
theorem rightB_zero (ws : List X) : rightB ws 0 = decide (ws.length ≤ 6) := by
  unfold rightB
  rw [Bool.eq_iff_iff, decide_eq_true_eq, decide_eq_true_eq]
  exact ⟨fun h => h.1, fun h => ⟨h, fun i _ hi => by omega⟩⟩
theorem rightB_succ {ws : List X} {k : Nat} (hk : k < ws.length) : rightB ws (k + 1) = (rightB ws k && (writesB [ws[k]] && (decide (k = 0) || lt (ws[k - 1]'(by omega)).k ws[k].k))) := by
  unfold rightB
  rw [Bool.eq_iff_iff]
  simp only [Bool.and_eq_true, Bool.or_eq_true, decide_eq_true_eq]
  constructor
  · rintro ⟨h1, h2⟩
    exact ⟨⟨h1, fun i hi hik => h2 i hi (by omega)⟩, h2 k hk (by omega)⟩
  · rintro ⟨⟨h1, h2⟩, h3⟩
    refine ⟨h1, fun i hi hik => ?_⟩
    by_cases e : i = k
    · subst e; exact h3
    · exact h2 i hi (by omega)
theorem one_ok (x : X) : writesB [x] = writeB x := by
  rw [Bool.eq_iff_iff, writesB_iff]
  constructor
  · intro h; exact h.each 0 (by simp)
  · intro h
    exact ⟨by simp, fun i hi => by
      have h0 : i = 0 := by simpa using hi
      subst h0
      exact h, fun i hi => by simp at hi⟩
theorem rightB_all {ws : List X} {k : Nat} (hk : ws.length ≤ k) : rightB ws k = writesB ws := by
  unfold rightB
  rw [Bool.eq_iff_iff, decide_eq_true_eq, writesB_iff]
  constructor
  · rintro ⟨h1, h2⟩
    refine ⟨h1, fun i hi => by rw [← one_ok]; exact (h2 i hi (by omega)).1, fun i hi => ?_⟩
    rcases (h2 (i + 1) hi (by omega)).2 with h | h
    · omega
    · exact h
  · intro h
    refine ⟨h.len, fun i hi _ => ⟨by rw [one_ok]; exact h.each i hi, ?_⟩⟩
    by_cases e : i = 0
    · exact .inl e
    · obtain ⟨j, rfl⟩ : ∃ j, i = j + 1 := ⟨i - 1, by omega⟩
      exact .inr (h.asc j hi)
theorem runCutM (t : TypeId) (ht : Try.prog.underlying t = some (.slice (Elt.T X))) (A : Option Addr) (n c p : Nat) (h1 : p < n) (h2 : n ≤ c) (w : World) :
    (Instr.slice t (.slice A n c) (some (.int .i64 (p : Int))) (some (.int .i64 ((p : Int) + 1))) none).run Try.prog w = .ok (.slice (cutG X A c p) 1 (c - p)) w := by
  have i1 : (0 : Int) ≤ (p : Int) := by omega
  have i2 : (p : Int) ≤ (p : Int) + 1 := by omega
  have i3 : (p : Int) + 1 ≤ (c : Int) := by omega
  have i4 : ((p : Int) + 1 - (p : Int)).toNat = 1 := by omega
  obtain ⟨i, hi, _, hs, _⟩ := infoG X
  simp [go_sem, ht, i1, i2, i3, cutG, sizeOf, typeInfo, hi, hs]
theorem rdOneOf {w : World} {A : Option Addr} {l : List X} {c k : Nat} (h : RdG w w.heap.size A l) (hc : l.length ≤ c) (hk : k < l.length) : RdG w w.heap.size (cutG X A c k) [l[k]] := by
  have h1 := (h.drop k c hc).take 1
  rwa [List.drop_eq_getElem_cons hk, List.take_succ_cons, List.take_zero] at h1

end Go.Proofs.Ytbhdgalkedegjaa
