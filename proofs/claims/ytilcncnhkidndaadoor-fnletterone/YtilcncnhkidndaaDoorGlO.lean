/- The program's two errors, read off the row's condition; they read again behind a call. -/
import Derived.Test.YtilcncnhkidndaaDoorIsE
import Derived.Test.YtilcncnhkidndaaDoorTie
import Derived.ChangeVars
import Derived.LaidLaws
import Derived.LaidHandle
import Derived.LaidMore
import Derived.Stop.LaidErr
import Derived.Stop.ErrReads
namespace Go.Proofs.YtilcncnhkidndaaDoor
open Go.ChangeShapes Go.WideShapes Go.RowKit
set_option linter.unusedVariables false
set_option maxRecDepth 100000

abbrev n0 : String := "loop.example/engrosser/impl.errMalformed"
abbrev n1 : String := "loop.example/engrosser/impl.errUnfinished"
abbrev laidE : List (String × DataW Unit) := [(n0, Rows.laid_loop_example_engrosser_impl_errMalformed), (n1, Rows.laid_loop_example_engrosser_impl_errUnfinished)]
theorem e_g0 : Tryd.prog.globalNamed n0 = some 0 := by kernel_rfl
theorem e_g1 : Tryd.prog.globalNamed n1 = some 1 := by kernel_rfl
theorem e_t0 : (Tryd.prog.globals[0]?).map (·.type) = some 52 := by kernel_rfl
theorem e_t1 : (Tryd.prog.globals[1]?).map (·.type) = some 52 := by kernel_rfl
theorem e_cells : Tryd.prog.cellsOf 114 = 1 := by kernel_rfl
theorem e_cellss : Tryd.prog.cellsOf 9 = 1 := by kernel_rfl
theorem e_star : "*" ++ "errors.errorString" = "*errors.errorString" := by decide
theorem e_row (u : TypeId) (h : Tryd.prog.typeName? 3 u = some "*errors.errorString") : u = 87 :=
 typeName_ptr_named (nm := "errors.errorString") (by rw [e_star]; kernel_rfl) (by kernel_rfl) (by decide) u (by rw [e_star]; exact h)
theorem e_open {W : World} (h : laidMet Tryd.prog laidE W) :
  ∃ (a0 a1 : Addr), W.var? Tryd.prog n0 = some #[erV a0] ∧ W.var? Tryd.prog n1 = some #[erV a1] ∧ GlE W a0 a1 := by
 obtain ⟨ps, ⟨g0, t0, cs0, f0, p0, q0, hg0, ht0, hv0, hd0, ⟨g1, t1, cs1, f1, p1, q1, hg1, ht1, hv1, hd1, hq1, e1⟩, e0⟩, hnd, hrows⟩ := h
 obtain rfl := Option.some.inj (e_g0.symm.trans hg0)
 obtain rfl := Option.some.inj (e_g1.symm.trans hg1)
 obtain rfl := Option.some.inj (e_t0.symm.trans ht0)
 obtain rfl := Option.some.inj (e_t1.symm.trans ht1)
 have hq1' : q1 = [] := hq1
 subst hq1'
 subst e1
 subst e0
 obtain ⟨l0⟩ := cs0
 obtain ⟨l1⟩ := cs1
 have ok0 : ∀ u v, l0 = [.iface u v] → Value.okWide Tryd.prog W .any 0 u v := fun u v e => by
  subst e
  exact (hrows 0 0 (by simp [MemPlace.row])).2 u v (by simpa using World.var?_cell hg0 hv0 0)
 have ok1 : ∀ u v, l1 = [.iface u v] → Value.okWide Tryd.prog W .any 0 u v := fun u v e => by
  subst e
  exact (hrows 1 0 (by simp [MemPlace.row])).2 u v (by simpa using World.var?_cell hg1 hv1 0)
 obtain ⟨a0, s0, rfl, hc0, hs0, hz0, rfl⟩ := errorString_of_trod Tryd.underlying52 e_row Tryd.underlying87 Tryd.underlying114 rfl rfl Tryd.underlying9 e_cells e_cellss hd0 ok0
 obtain ⟨a1, s1, rfl, hc1, hs1, hz1, rfl⟩ := errorString_of_trod Tryd.underlying52 e_row Tryd.underlying87 Tryd.underlying114 rfl rfl Tryd.underlying9 e_cells e_cellss hd1 ok1
 obtain ⟨c0, t0, hb0⟩ := (hrows a0.block a0.off (by simp [MemPlace.row])).1
 obtain ⟨c1, t1, hb1⟩ := (hrows a1.block a1.off (by simp [MemPlace.row])).1
 have k0 : W.cell? ⟨0, 0, none⟩ = some (erV a0) := by simpa using World.var?_cell e_g0 hv0 0
 have k1 : W.cell? ⟨1, 0, none⟩ = some (erV a1) := by simpa using World.var?_cell e_g1 hv1 0
 have l0 := World.block_lt_of_cell? W ⟨0, 0, none⟩ k0
 have l1 := World.block_lt_of_cell? W ⟨1, 0, none⟩ k1
 refine ⟨a0, a1, hv0, hv1, k0, k1, ?_, ⟨c0, t0, hb0⟩, ⟨c1, t1, hb1⟩, by show 2 ≤ _; change 0 < _ at l0; change 1 < _ at l1; omega⟩
 rintro rfl
 simp [MemPlace.row] at hnd
theorem e_read {H : Type} (enc : TypeId × Value → H) {W : World} {x0 x1 : Value} (h0 : W.var? Tryd.prog n0 = some #[x0]) (h1 : W.var? Tryd.prog n1 = some #[x1]) (i0 : IsIface x0) (i1 : IsIface x1) (sp : Nat → Bool) :
  DataW.TrodVars enc Tryd.prog W sp [n0, n1] [tok enc x0, tok enc x1] [.cell 0 0, .cell 1 0] :=
 ⟨0, 52, #[x0], 1, [], [.cell 1 0], e_g0, e_t0, h0, trod_held Tryd.underlying52 i0 0, ⟨1, 52, #[x1], 1, [], [], e_g1, e_t1, h1, trod_held Tryd.underlying52 i1 0, rfl, rfl⟩, rfl⟩
theorem var_below {W W' : World} {n : String} {cs : Array Value} {g : Nat} (hg : Tryd.prog.globalNamed n = some g) (hb : Below W.heap.size W W') (h : W.var? Tryd.prog n = some cs) : W'.var? Tryd.prog n = some cs := by
 unfold World.var? at h ⊢
 simp only [hg, Option.bind_some] at h ⊢
 have hlt : g < W.heap.size := by
  rcases Nat.lt_or_ge g W.heap.size with h' | h'
  ·
   exact h'
  ·
   simp [Array.getElem?_eq_none h'] at h
 rw [hb.block g hlt]
 exact h
theorem e_door (os : Os) (args : Array Value) : laidMetH Tryd.prog laidE ((World.doorLaid Tryd.prog 47 os).forCall (fun _ _ => 0) ⟨#[], args, []⟩).memory :=
 laidMetH_of_parts3 (fuel := 8) (laidMet_of_run' 8 (by kernel_rfl) (by kernel_rfl)) (by kernel_rfl) (by kernel_rfl)
theorem e_plain {W : World} (h : laidMetH Tryd.prog laidE W) : laidMet Tryd.prog laidE W := by
 rw [MakeChecks.laidMetH_plain _ _ _ (by kernel_rfl)] at h
 exact h
end Go.Proofs.YtilcncnhkidndaaDoor
