/- VersSame, of the model and of the program. -/
import Derived.Test.YtlhbnncghcoldaaB1
import Derived.Laws.StructEq
namespace Go.Proofs.Ytlhbnncghcoldaa
open Go.RowKit
set_option linter.unusedVariables false
set_option maxRecDepth 100000

theorem neqVer (s t : ByteArray) (a b c a' b' c' : Int) (w : World) : (binOp .neq 103 (.agg #[.string s, .int .i64 a, .int .i64 b, .int .i64 c]) (.agg #[.string t, .int .i64 a', .int .i64 b', .int .i64 c'])).run Try.prog w = .ok (.bool (!eqV ⟨s, a, b, c⟩ ⟨t, a', b', c'⟩)) w := by
 simp [go_sem]
 by_cases h : (⟨s, a, b, c⟩ : V) = ⟨t, a', b', c'⟩
 ·
  rw [eqV_yes h]
  simp only [V.mk.injEq] at h
  obtain ⟨rfl, rfl, rfl, rfl⟩ := h
  simp
 ·
  rw [eqV_no h]
  simp only [V.mk.injEq] at h
  simp only [Bool.not_false] at *
  by_cases h1 : s = t
  ·
   subst h1
   by_cases h2 : a = a'
   ·
    subst h2
    by_cases h3 : b = b'
    ·
     subst h3
     by_cases h4 : c = c'
     ·
      exact absurd ⟨rfl, rfl, rfl, h4⟩ h
     ·
      simp [h4]
    ·
     simp [h3]
   ·
    simp [h2]
  ·
   have h3 : s.toList ≠ t.toList := fun e => h1 (str_eq (by rw [e]; simp))
   simp [h3]

end Go.Proofs.Ytlhbnncghcoldaa
