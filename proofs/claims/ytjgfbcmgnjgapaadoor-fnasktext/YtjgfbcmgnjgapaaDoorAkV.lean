/- The program's table of forms, read off the row's condition; it reads again behind a call. -/
import Derived.Test.YtjgfbcmgnjgapaaDoorAkG
import Derived.Test.YtjgfbcmgnjgapaaDoorWhole
import Derived.ChangeVars
import Derived.ChangeOld
import Derived.Below
import Derived.Carry
import Derived.LaidLaws
import Derived.LaidMore
import Derived.Stop.LaidErr
import Derived.SevenTiedAt
namespace Go.Proofs.YtjgfbcmgnjgapaaDoor
open Go.ChangeShapes Go.WideShapes Go.WideElems Go.RowKit
set_option linter.unusedVariables false
set_option maxRecDepth 100000

abbrev nF : String := "loop.example/engrosser/impl.askForms"
abbrev dF : DataW Unit := Rows.laid_loop_example_engrosser_impl_askForms
abbrev laidF : List (String × DataW Unit) := [(nF, dF)]
theorem f_g : Tryd.prog.globalNamed nF = some 0 := by kernel_rfl
theorem f_t : (Tryd.prog.globals[0]?).map (·.type) = some 40 := by kernel_rfl
theorem forms_laid : dF = .agg (forms.map formD) := rfl
theorem f_of {W : World} {r : List (String × DataW Unit)} (h : laidMet Tryd.prog ((nF, dF) :: r) W) : Glf W := by
 obtain ⟨ps, ⟨g0, t0, cs0, f0, p0, q0, hg0, ht0, hv0, hd0, hq, e0⟩, hnd, hrows⟩ := h
 obtain rfl := Option.some.inj (f_g.symm.trans hg0)
 obtain rfl := Option.some.inj (f_t.symm.trans ht0)
 rw [forms_laid] at hd0
 intro k x hk r v hv
 have h1 := forms_open hd0 k x hk r v hv
 have h2 := World.var?_cell hg0 hv0 (k * 4 + r)
 rw [h2, ← Array.getElem?_toList]
 exact h1
theorem var_below {W W' : World} {n : String} {cs : Array Value} {g : Nat} (hg : Tryd.prog.globalNamed n = some g) (hb : Below W.heap.size W W') (h : W.var? Tryd.prog n = some cs) : W'.var? Tryd.prog n = some cs := by
 unfold World.var? at h ⊢
 simp only [hg, Option.bind_some] at h ⊢
 have hlt : g < W.heap.size := by
  rcases Nat.lt_or_ge g W.heap.size with h' | h'
  ·
   exact h'
  ·
   simp [Array.getElem?_eq_none h'] at h
 rw [hb.block g hlt]
 exact h
section
variable {H : Type} {enc : TypeId × Value → H} {W W' : World} {gs : List (DataW H)} {ps : List MemPlace}
theorem vars_one (h : DataW.TrodVars enc Tryd.prog W (fun _ => true) [nF] gs ps) : ∃ d, gs = [d] := by
 obtain ⟨_, _, _, _, d, _, h, _⟩ := trodVars_one h
 exact ⟨d, h⟩
theorem vars_stay (h : DataW.TrodVars enc Tryd.prog W (fun _ => true) [nF] gs ps) (hb : Below W.heap.size W W') : DataW.TrodVars enc Tryd.prog W' (fun b => decide (b < W.heap.size)) [nF] gs ps := by
 have hlt := DataW.TrodVars.lt h
 obtain ⟨g, t, cs, fuel, d, p, rfl, hg, ht, hv, hd, rfl⟩ := trodVars_one h
 obtain rfl := Option.some.inj (f_g.symm.trans hg)
 obtain rfl := Option.some.inj (f_t.symm.trans ht)
 have hk : ∀ x ∈ p, x.block < W.heap.size := fun x hx => hlt x (List.mem_append_right _ hx)
 exact trodVars_mk1 hg ht (var_below hg hb hv) (DataW.trod_stays (kids_book Whole.laidOut (by kernel_rfl)) (book_sized (by kernel_rfl)) (fun h => by cases h) ⟨of_decide_eq_true (by kernel_rfl), book_self _⟩ hd (fun x hx => hb.same (hk x hx)) (fun x hx => by simpa using hk x hx))
end
theorem f_door (os : Os) (args : Array Value) : laidMetH Tryd.prog laidF ((World.doorLaid Tryd.prog 76 os).forCall (fun _ _ => 0) ⟨#[], args, []⟩).memory :=
 laidMetH_of_parts3 (fuel := 8) (laidMet_of_run' 8 (by kernel_rfl) (by kernel_rfl)) (by kernel_rfl) (by kernel_rfl)
theorem f_plain {W : World} (h : laidMetH Tryd.prog laidF W) : laidMet Tryd.prog laidF W := by
 rw [MakeChecks.laidMetH_plain _ _ _ (by kernel_rfl)] at h
 exact h
end Go.Proofs.YtjgfbcmgnjgapaaDoor
