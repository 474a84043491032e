/- A struct Ver of the laws, read off its cells; a slice of them as an argument. -/
import Derived.Test.YtbhdgalkedegjaaArgG
import Derived.Test.YtbhdgalkedegjaaFlVer
namespace Go.Proofs.Ytbhdgalkedegjaa
open Go.ChangeShapes Go.WideShapes Go.ChangeAt Go.RowKit Go.Deep
set_option linter.unusedVariables false
set_option maxRecDepth 100000

theorem cellsLawVer : Try.prog.cellsOf 132 = 4 := by kernel_rfl
theorem structLawVer : ∃ f0 f1 f2 f3 : Field, Try.prog.underlying 132 = some (.struct #[f0, f1, f2, f3]) ∧ f0.offset = 0 ∧ f0.type = 9 ∧ f1.offset = 1 ∧ f1.type = 3 ∧ f2.offset = 2 ∧ f2.type = 3 ∧ f3.offset = 3 ∧ f3.type = 3 := by
  have h := Try.underlying132
  exact ⟨_, _, _, _, h, rfl, rfl, rfl, rfl, rfl, rfl, rfl, rfl⟩
theorem oneVers : Try.prog.cellsOf 9 = 1 := by kernel_rfl
theorem oneVeri : Try.prog.cellsOf 3 = 1 := by kernel_rfl
theorem oneVerb : Try.prog.cellsOf 4 = 1 := by kernel_rfl

theorem decV {H : Type} {enc : TypeId × Value → H} {W : World} (n : Nat) (cs' : List Value) (x : DataW H × List MemPlace) (h : DataW.trod enc Try.prog W 0 (fun _ => true) true n 132 cs' = some x) :
    ∃ a : V, cs' = Elt.cs a ∧ FitV a := by
  obtain ⟨f0, f1, f2, f3, hs, o0, t0, o1, t1, o2, t2, o3, t3⟩ := structLawVer
  obtain ⟨xs, k, _, _, hl, hxl, hf⟩ := DataW.trod_struct hs h
  rw [cellsLawVer] at hl
  match xs, hxl, cs', hl with
  | [y0, y1, y2, y3], _, [v0, v1, v2, v3], _ =>
    have g0 := hf 0 f0 rfl
    rw [o0, t0, oneVers] at g0
    simp only [List.drop_zero, List.drop_succ_cons, List.take_succ_cons, List.take_zero, List.getElem?_cons_zero, List.getElem?_cons_succ] at g0
    obtain ⟨s0, e0, _, z0⟩ := DataW.trod_string Try.underlying9 g0
    simp only [List.cons.injEq, and_true] at e0
    subst e0
    have g1 := hf 1 f1 rfl
    rw [o1, t1, oneVeri] at g1
    simp only [List.drop_zero, List.drop_succ_cons, List.take_succ_cons, List.take_zero, List.getElem?_cons_zero, List.getElem?_cons_succ] at g1
    obtain ⟨s1, e1, _, z1⟩ := DataW.trod_int Try.underlying3 g1
    simp only [List.cons.injEq, and_true] at e1
    subst e1
    have g2 := hf 2 f2 rfl
    rw [o2, t2, oneVeri] at g2
    simp only [List.drop_zero, List.drop_succ_cons, List.take_succ_cons, List.take_zero, List.getElem?_cons_zero, List.getElem?_cons_succ] at g2
    obtain ⟨s2, e2, _, z2⟩ := DataW.trod_int Try.underlying3 g2
    simp only [List.cons.injEq, and_true] at e2
    subst e2
    have g3 := hf 3 f3 rfl
    rw [o3, t3, oneVeri] at g3
    simp only [List.drop_zero, List.drop_succ_cons, List.take_succ_cons, List.take_zero, List.getElem?_cons_zero, List.getElem?_cons_succ] at g3
    obtain ⟨s3, e3, _, z3⟩ := DataW.trod_int Try.underlying3 g3
    simp only [List.cons.injEq, and_true] at e3
    subst e3
    exact ⟨⟨s0, s1, s2, s3⟩, rfl, z0, (fitI_of z1).1, (fitI_of z1).2, (fitI_of z2).1, (fitI_of z2).2, (fitI_of z3).1, (fitI_of z3).2⟩

theorem openVerS {H : Type} {enc : TypeId × Value → H} {W : World} {fuel : Nat} {v : Value} {x : DataW H × List MemPlace} (h : DataW.trod enc Try.prog W 0 (fun _ => true) true fuel 22 [v] = some x) :
    ∃ (A : Option Addr) (c : Nat) (l : List V), v = .slice A l.length c ∧ l.length ≤ c ∧ c ≤ maxLen ∧ FitVs l ∧ RdG W W.heap.size A l :=
  openG Try.underlying22 cellsLawVer FitV decV h

theorem openArgVer {H : Type} {enc : TypeId × Value → H} {W : World} {r : Reach} {b0 : Nat} {v : Value} {d : DataW H} {p : List MemPlace}
    (hv : Value.okWide Try.prog W r b0 22 v) (h : DataW.Trod enc Try.prog W 0 (fun _ => true) true 22 v d p) :
    ∃ (A : Option Addr) (c : Nat) (l : List V), v = .slice A l.length c ∧ l.length ≤ c ∧ c ≤ maxLen ∧ FitVs l ∧ RdG W W.heap.size A l := by
  obtain ⟨a0, len0, cap0, rfl⟩ := okWide_slice Try.underlying22 hv
  obtain ⟨fuel, hf⟩ := h
  exact openVerS hf

end Go.Proofs.Ytbhdgalkedegjaa
