/- The model's chapter 3: its contracts by the values of the call's own. -/
import Derived.Test.YtheblejlmlfddaaW3d
namespace Go.Proofs.Ytheblejlmlfddaa
open Go.RowKit
set_option linter.unusedVariables false

theorem workRows_length (z : Int) (l : List V) (a : Int) (ws : List X) : (workRows z l a ws).length ≤ 10 := by
 unfold workRows
 split
 ·
  rename_i h
  exact (rowsP_iff.1 (workB_iff.1 h).rows).1
 ·
  simp
theorem endL_length (z : Int) (l : List V) (a : Int) (ws : List X) (hl : l.length ≤ 1048576) : (endL z l a ws).length ≤ 1048577 := by
 unfold endL
 split
 ·
  split
  ·
   omega
  ·
   exact doL_len z l ws hl
 ·
  simp
theorem wputW_length (z : Int) (l : List V) (a : Int) (ws : List X) (x : X) (hl : ws.length ≤ 1048576) : (wputW z l a ws x).length ≤ 1048577 := by
 unfold wputW
 split
 ·
  rename_i hk
  split
  ·
   have h1 := putXs_length ws x
   have h2 := (workB_iff.1 hk).wr.len
   omega
  ·
   omega
 ·
  simp
end Go.Proofs.Ytheblejlmlfddaa
