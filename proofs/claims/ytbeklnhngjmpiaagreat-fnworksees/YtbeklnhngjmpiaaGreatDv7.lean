/- The whole draws of chapter 2: two histories. -/
import Derived.Test.YtbeklnhngjmpiaaGreatDv5
import Derived.Test.YtbeklnhngjmpiaaGreatM2d
namespace Go.Proofs.YtbeklnhngjmpiaaGreat
open Go.RowKit
set_option linter.unusedVariables false
set_option maxRecDepth 100000

theorem do_bounds {z : Int} {l : List V} {ws : List X} (hf : FitVs l) (hx : FitXs ws) (h0 : 0 ≤ z) (h1 : z ≤ 40) (hl : l.length ≤ 60) (hw : ws.length ≤ 8) : (-5 ≤ doZ z l ws ∧ doZ z l ws ≤ 50) ∧ (doL z l ws).length ≤ 70 ∧ FitVs (doL z l ws) := by
 cases hb : doB z l ws
 ·
  rcases do_false hb with ⟨_, e1, e2⟩ | ⟨_, e1, e2⟩ <;> rw [e1, e2]
  ·
   exact ⟨⟨by omega, by omega⟩, by omega, hf⟩
  ·
   exact ⟨⟨by omega, by omega⟩, by simp, fun r hr => by simp at hr⟩
 ·
  obtain ⟨p1, p2, p3, p4, p5⟩ := do_parts hb
  have hd := doAll_length ws l (z + 1)
  refine ⟨by rw [p4]; omega, by rw [p5]; omega, FitVs.doL p1 hf hx⟩
end Go.Proofs.YtbeklnhngjmpiaaGreat
