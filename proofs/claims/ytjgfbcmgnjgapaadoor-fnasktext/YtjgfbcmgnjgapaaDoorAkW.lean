/- The package variables that writing and reading texts want, read off the row's condition. -/
import Derived.Test.YtjgfbcmgnjgapaaDoorAkV
import Derived.Test.YtjgfbcmgnjgapaaDoorAkI
namespace Go.Proofs.YtjgfbcmgnjgapaaDoor
open Go.ChangeShapes Go.WideShapes Go.WideElems Go.RowKit
set_option linter.unusedVariables false
set_option maxRecDepth 100000

abbrev laidT : List (String × DataW Unit) := [("math/bits.deBruijn32tab", Rows.laid_math_bits_deBruijn32tab), ("math/bits.deBruijn64tab", Rows.laid_math_bits_deBruijn64tab), ("internal/strconv.uint64pow10", Rows.laid_internal_strconv_uint64pow10), (nF, dF)]
theorem pow_laid : (Rows.laid_internal_strconv_uint64pow10 : DataW Unit) = Lib.tabData .u64 Lib.pow10Tab := by rfl
theorem p_t : (Tryd.prog.globals[3]?).map (·.type) = some 103 := by kernel_rfl
theorem p_of {W : World} {r : List (String × DataW Unit)} (h : laidMet Tryd.prog (("internal/strconv.uint64pow10", Rows.laid_internal_strconv_uint64pow10) :: r) W) : TabP W := by
 rw [pow_laid] at h
 exact Lib.tabIs_of_head p_g p_t Tryd.underlying103 Tryd.underlying89 (by kernel_rfl) (by kernel_rfl) h
theorem t_open {W : World} (h : laidMet Tryd.prog laidT W) : Glf W ∧ TabP W := ⟨f_of h.tail.tail.tail, p_of h.tail.tail⟩
theorem t_door (os : Os) (args : Array Value) : laidMetH Tryd.prog laidT ((World.doorLaid Tryd.prog 76 os).forCall (fun _ _ => 0) ⟨#[], args, []⟩).memory :=
 laidMetH_of_parts3 (fuel := 8) (laidMet_of_run' 8 (by kernel_rfl) (by kernel_rfl)) (by kernel_rfl) (by kernel_rfl)
theorem t_plain {W : World} (h : laidMetH Tryd.prog laidT W) : laidMet Tryd.prog laidT W := by
 rw [MakeChecks.laidMetH_plain _ _ _ (by kernel_rfl)] at h
 exact h
end Go.Proofs.YtjgfbcmgnjgapaaDoor
