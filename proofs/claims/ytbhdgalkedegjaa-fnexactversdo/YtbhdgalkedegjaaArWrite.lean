/- A struct Write of the laws, read off its cells; a slice of them as an argument. -/
import Derived.Test.YtbhdgalkedegjaaArgG
import Derived.Test.YtbhdgalkedegjaaFlWrite
namespace Go.Proofs.Ytbhdgalkedegjaa
open Go.ChangeShapes Go.WideShapes Go.ChangeAt Go.RowKit Go.Deep
set_option linter.unusedVariables false
set_option maxRecDepth 100000

theorem cellsLawWrite : Try.prog.cellsOf 98 = 3 := by kernel_rfl
theorem structLawWrite : ∃ f0 f1 f2 : Field, Try.prog.underlying 98 = some (.struct #[f0, f1, f2]) ∧ f0.offset = 0 ∧ f0.type = 9 ∧ f1.offset = 1 ∧ f1.type = 3 ∧ f2.offset = 2 ∧ f2.type = 4 := by
  have h := Try.underlying98
  exact ⟨_, _, _, h, rfl, rfl, rfl, rfl, rfl, rfl⟩
theorem oneWrites : Try.prog.cellsOf 9 = 1 := by kernel_rfl
theorem oneWritei : Try.prog.cellsOf 3 = 1 := by kernel_rfl
theorem oneWriteb : Try.prog.cellsOf 4 = 1 := by kernel_rfl

theorem decX {H : Type} {enc : TypeId × Value → H} {W : World} (n : Nat) (cs' : List Value) (x : DataW H × List MemPlace) (h : DataW.trod enc Try.prog W 0 (fun _ => true) true n 98 cs' = some x) :
    ∃ a : X, cs' = Elt.cs a ∧ FitX a := by
  obtain ⟨f0, f1, f2, hs, o0, t0, o1, t1, o2, t2⟩ := structLawWrite
  obtain ⟨xs, k, _, _, hl, hxl, hf⟩ := DataW.trod_struct hs h
  rw [cellsLawWrite] at hl
  match xs, hxl, cs', hl with
  | [y0, y1, y2], _, [v0, v1, v2], _ =>
    have g0 := hf 0 f0 rfl
    rw [o0, t0, oneWrites] at g0
    simp only [List.drop_zero, List.drop_succ_cons, List.take_succ_cons, List.take_zero, List.getElem?_cons_zero, List.getElem?_cons_succ] at g0
    obtain ⟨s0, e0, _, z0⟩ := DataW.trod_string Try.underlying9 g0
    simp only [List.cons.injEq, and_true] at e0
    subst e0
    have g1 := hf 1 f1 rfl
    rw [o1, t1, oneWritei] at g1
    simp only [List.drop_zero, List.drop_succ_cons, List.take_succ_cons, List.take_zero, List.getElem?_cons_zero, List.getElem?_cons_succ] at g1
    obtain ⟨s1, e1, _, z1⟩ := DataW.trod_int Try.underlying3 g1
    simp only [List.cons.injEq, and_true] at e1
    subst e1
    have g2 := hf 2 f2 rfl
    rw [o2, t2, oneWriteb] at g2
    simp only [List.drop_zero, List.drop_succ_cons, List.take_succ_cons, List.take_zero, List.getElem?_cons_zero, List.getElem?_cons_succ] at g2
    obtain ⟨s2, e2, _⟩ := DataW.trod_bool Try.underlying4 g2
    simp only [List.cons.injEq, and_true] at e2
    subst e2
    exact ⟨⟨s0, s1, s2⟩, rfl, z0, (fitI_of z1).1, (fitI_of z1).2⟩

theorem openWriteS {H : Type} {enc : TypeId × Value → H} {W : World} {fuel : Nat} {v : Value} {x : DataW H × List MemPlace} (h : DataW.trod enc Try.prog W 0 (fun _ => true) true fuel 41 [v] = some x) :
    ∃ (A : Option Addr) (c : Nat) (l : List X), v = .slice A l.length c ∧ l.length ≤ c ∧ c ≤ maxLen ∧ FitXs l ∧ RdG W W.heap.size A l :=
  openG Try.underlying41 cellsLawWrite FitX decX h

theorem openArgWrite {H : Type} {enc : TypeId × Value → H} {W : World} {r : Reach} {b0 : Nat} {v : Value} {d : DataW H} {p : List MemPlace}
    (hv : Value.okWide Try.prog W r b0 41 v) (h : DataW.Trod enc Try.prog W 0 (fun _ => true) true 41 v d p) :
    ∃ (A : Option Addr) (c : Nat) (l : List X), v = .slice A l.length c ∧ l.length ≤ c ∧ c ≤ maxLen ∧ FitXs l ∧ RdG W W.heap.size A l := by
  obtain ⟨a0, len0, cap0, rfl⟩ := okWide_slice Try.underlying41 hv
  obtain ⟨fuel, hf⟩ := h
  exact openWriteS hf

end Go.Proofs.Ytbhdgalkedegjaa
