/- Small laws that the exact laws over rows share. -/
import Derived.Test.YtbhdgalkedegjaaMark
import Derived.Test.YtbhdgalkedegjaaEq
import Derived.Test.YtbhdgalkedegjaaSz
import Derived.Test.YtbhdgalkedegjaaTo
namespace Go.Proofs.Ytbhdgalkedegjaa
open Go.RowKit
set_option linter.unusedVariables false

theorem fitOne {s : ByteArray} {n : Int} (hs : s.size ≤ maxLen) (hn : (Lit.int .i64 n).wf = true) : FitR [(s, n)] := by
  intro r hr
  have : r = (s, n) := by simpa using hr
  subst this
  refine ⟨hs, ?_⟩
  simpa [Lit.wf, IntKind.min, IntKind.max, IntKind.signed, IntKind.bits] using hn
theorem OwnR.kept {w w' : World} {base : Nat} {v : Value} {l : List R} {row : Option Nat} (h : OwnR w base v l) (hg : w.grownBy w' row) (hne : ∀ g, v.ownBlock = some g → some g ≠ row) : OwnR w' base v l :=
  h.keep fun g hgv => hg.block g (h.block_lt hgv).2 (hne g hgv)
theorem belowGrow {a W W' : World} {row : Option Nat} (h : Below a.heap.size a W) (hg : W.grownBy W' row) (hr : ∀ k, row = some k → a.heap.size ≤ k) : Below a.heap.size a W' := h.grown hg h.size hr
theorem eqOwn_c (v v' : Value) (l l' : List R) (base base' : Nat) (w : World) (h : OwnR w base v l) (h' : OwnR w base' v' l') (hl : l.length ≤ 2097152) (hl' : l'.length ≤ 2097152) :
    Calls Try.prog 27 #[v, v'] w fun e w' => e = .returned (.bool (eqL l l')) ∧ Below w.heap.size w w' := by
  obtain ⟨A, c, rfl, _, _, hr⟩ := h.read
  obtain ⟨A', c', rfl, _, _, hr'⟩ := h'.read
  exact eqRowS_c A A' c c' l l' w hl hl' hr hr'
theorem OwnR.rd {w : World} {base : Nat} {g n c : Nat} {l : List R} (h : OwnR w base (.slice (some ⟨g, 0, none⟩) n c) l) : Rd w w.heap.size (some ⟨g, 0, none⟩) l := by
  obtain ⟨A, c', e, _, _, hr⟩ := h.read
  injection e with e1 e2 e3
  rw [e1]; exact hr

end Go.Proofs.Ytbhdgalkedegjaa
