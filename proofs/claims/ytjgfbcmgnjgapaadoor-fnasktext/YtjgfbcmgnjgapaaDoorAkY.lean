/- The package variables that reading texts wants, read off the row's condition. -/
import Derived.Test.YtjgfbcmgnjgapaaDoorAkW
import Derived.Test.YtjgfbcmgnjgapaaDoorAkR
namespace Go.Proofs.YtjgfbcmgnjgapaaDoor
open Go.ChangeShapes Go.WideShapes Go.WideElems Go.RowKit
set_option linter.unusedVariables false
set_option maxRecDepth 100000

abbrev laidR : List (String × DataW Unit) := [("math/bits.deBruijn32tab", Rows.laid_math_bits_deBruijn32tab), ("math/bits.deBruijn64tab", Rows.laid_math_bits_deBruijn64tab), ("internal/strconv.uint64pow10", Rows.laid_internal_strconv_uint64pow10), ("strconv.ErrRange", Rows.laid_strconv_ErrRange), ("strconv.ErrSyntax", Rows.laid_strconv_ErrSyntax), (nF, dF)]
/-- the two errors of strconv -/
structure ErrP (w : World) : Prop where
 er : ∃ p v, w.var? Tryd.prog "strconv.ErrRange" = some #[.iface p v]
 es : ∃ p v, w.var? Tryd.prog "strconv.ErrSyntax" = some #[.iface p v]
theorem ErrP.next {w w' : World} (h : ErrP w) (hb : Below w.heap.size w w') : ErrP w' := by
 obtain ⟨⟨p, v, h1⟩, ⟨p', v', h2⟩⟩ := h
 exact ⟨⟨p, v, var_next ER_g hb h1⟩, ⟨p', v', var_next ES_g hb h2⟩⟩
theorem er_t : (Tryd.prog.globals[2]?).map (·.type) = some 46 := by kernel_rfl
theorem es_t : (Tryd.prog.globals[1]?).map (·.type) = some 46 := by kernel_rfl
theorem e_cells : Tryd.prog.cellsOf 112 = 1 := by kernel_rfl
theorem e_cellss : Tryd.prog.cellsOf 9 = 1 := by kernel_rfl
theorem e_star : "*" ++ "errors.errorString" = "*errors.errorString" := by decide
theorem e_row (u : TypeId) (h : Tryd.prog.typeName? 3 u = some "*errors.errorString") : u = 110 :=
 typeName_ptr_named (nm := "errors.errorString") (by rw [e_star]; kernel_rfl) (by kernel_rfl) (by decide) u (by rw [e_star]; exact h)
theorem r_open {W : World} (h : laidMet Tryd.prog laidR W) : Glf W ∧ TabP W ∧ ErrP W := by
 refine ⟨f_of h.tail.tail.tail.tail.tail, p_of h.tail.tail, ?_, ?_⟩
 ·
  obtain ⟨a, s, hv, -⟩ := laid_sentinel h.tail.tail.tail ER_g er_t Tryd.underlying46 e_row Tryd.underlying110 Tryd.underlying112 rfl rfl Tryd.underlying9 e_cells e_cellss
  exact ⟨_, _, hv⟩
 ·
  obtain ⟨a, s, hv, -⟩ := laid_sentinel h.tail.tail.tail.tail ES_g es_t Tryd.underlying46 e_row Tryd.underlying110 Tryd.underlying112 rfl rfl Tryd.underlying9 e_cells e_cellss
  exact ⟨_, _, hv⟩
theorem r_door (os : Os) (args : Array Value) : laidMetH Tryd.prog laidR ((World.doorLaid Tryd.prog 76 os).forCall (fun _ _ => 0) ⟨#[], args, []⟩).memory :=
 laidMetH_of_parts3 (fuel := 8) (laidMet_of_run' 8 (by kernel_rfl) (by kernel_rfl)) (by kernel_rfl) (by kernel_rfl)
theorem r_plain {W : World} (h : laidMetH Tryd.prog laidR W) : laidMet Tryd.prog laidR W := by
 rw [MakeChecks.laidMetH_plain _ _ _ (by kernel_rfl)] at h
 exact h
theorem implRead (t : ByteArray) (w : World) (ht : t.size ≤ 1048576) (G : Glf w) (T : TabP w) (E : ErrP w) : Calls Tryd.prog 9 #[.string t] w (RetRead w t) := by
 obtain ⟨⟨p1, v1, h1⟩, ⟨p0, v0, h0⟩⟩ := E
 exact implAskRead t w ht G T p0 p1 v0 v1 h0 h1
end Go.Proofs.YtjgfbcmgnjgapaaDoor
