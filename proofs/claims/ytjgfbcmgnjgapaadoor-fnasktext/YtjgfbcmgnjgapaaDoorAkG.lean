/- What the program's table of forms holds when a call begins, read off the row's condition. -/
import Derived.Test.YtjgfbcmgnjgapaaDoorF5
import Derived.Test.YtjgfbcmgnjgapaaDoorTie
import Derived.LaidHandle
import Derived.LaidLaws
import Derived.LaidMore
import Derived.OpenShut
namespace Go.Proofs.YtjgfbcmgnjgapaaDoor
open Go.RowKit
set_option linter.unusedVariables false
set_option maxRecDepth 100000

def forms : List (List UInt8 × Bool × Bool × Bool) := [([], false, false, false), ([103, 101, 116], true, false, false), ([97, 108, 108], true, true, false), ([115, 117, 109], true, true, false), ([112, 117, 116], true, false, true), ([97, 100, 100], true, false, true), ([99, 117, 116], true, false, false), ([98, 101, 103, 105, 110], false, false, false), ([101, 110, 100], false, false, false), ([117, 110, 100, 111], false, false, false)]
def formV (x : List UInt8 × Bool × Bool × Bool) : List Value := [.string ⟨x.1.toArray⟩, .bool x.2.1, .bool x.2.2.1, .bool x.2.2.2]
def formD (x : List UInt8 × Bool × Bool × Bool) : DataW Unit := .agg [.lit (.string x.1), .lit (.bool x.2.1), .lit (.bool x.2.2.1), .lit (.bool x.2.2.2)]
/-- the table of forms is as the program's text lays it -/
def Glf (W : World) : Prop := ∀ k x, forms[k]? = some x → ∀ r v, (formV x)[r]? = some v → W.cell? ⟨0, k * 4 + r, none⟩ = some v
theorem Glf.lt {W : World} (h : Glf W) : 0 < W.heap.size := World.block_lt_of_cell? W ⟨0, 0 * 4 + 0, none⟩ (h 0 _ rfl 0 _ rfl)
theorem Glf.next {W W' : World} (h : Glf W) (hb : Below W.heap.size W W') : Glf W' := fun k x hx r v hv => (hb.cell (p := ⟨0, k * 4 + r, none⟩) h.lt).trans (h k x hx r v hv)
theorem Glf.f1 {W : World} (h : Glf W) : W.cell? ⟨0, 4, none⟩ = some (.string ⟨#[103, 101, 116]⟩) ∧ W.cell? ⟨0, 5, none⟩ = some (.bool true) ∧ W.cell? ⟨0, 6, none⟩ = some (.bool false) ∧ W.cell? ⟨0, 7, none⟩ = some (.bool false) :=
 ⟨h 1 _ rfl 0 _ rfl, h 1 _ rfl 1 _ rfl, h 1 _ rfl 2 _ rfl, h 1 _ rfl 3 _ rfl⟩
theorem Glf.f2 {W : World} (h : Glf W) : W.cell? ⟨0, 8, none⟩ = some (.string ⟨#[97, 108, 108]⟩) ∧ W.cell? ⟨0, 9, none⟩ = some (.bool true) ∧ W.cell? ⟨0, 10, none⟩ = some (.bool true) ∧ W.cell? ⟨0, 11, none⟩ = some (.bool false) :=
 ⟨h 2 _ rfl 0 _ rfl, h 2 _ rfl 1 _ rfl, h 2 _ rfl 2 _ rfl, h 2 _ rfl 3 _ rfl⟩
theorem Glf.f3 {W : World} (h : Glf W) : W.cell? ⟨0, 12, none⟩ = some (.string ⟨#[115, 117, 109]⟩) ∧ W.cell? ⟨0, 13, none⟩ = some (.bool true) ∧ W.cell? ⟨0, 14, none⟩ = some (.bool true) ∧ W.cell? ⟨0, 15, none⟩ = some (.bool false) :=
 ⟨h 3 _ rfl 0 _ rfl, h 3 _ rfl 1 _ rfl, h 3 _ rfl 2 _ rfl, h 3 _ rfl 3 _ rfl⟩
theorem Glf.f4 {W : World} (h : Glf W) : W.cell? ⟨0, 16, none⟩ = some (.string ⟨#[112, 117, 116]⟩) ∧ W.cell? ⟨0, 17, none⟩ = some (.bool true) ∧ W.cell? ⟨0, 18, none⟩ = some (.bool false) ∧ W.cell? ⟨0, 19, none⟩ = some (.bool true) :=
 ⟨h 4 _ rfl 0 _ rfl, h 4 _ rfl 1 _ rfl, h 4 _ rfl 2 _ rfl, h 4 _ rfl 3 _ rfl⟩
theorem Glf.f5 {W : World} (h : Glf W) : W.cell? ⟨0, 20, none⟩ = some (.string ⟨#[97, 100, 100]⟩) ∧ W.cell? ⟨0, 21, none⟩ = some (.bool true) ∧ W.cell? ⟨0, 22, none⟩ = some (.bool false) ∧ W.cell? ⟨0, 23, none⟩ = some (.bool true) :=
 ⟨h 5 _ rfl 0 _ rfl, h 5 _ rfl 1 _ rfl, h 5 _ rfl 2 _ rfl, h 5 _ rfl 3 _ rfl⟩
theorem Glf.f6 {W : World} (h : Glf W) : W.cell? ⟨0, 24, none⟩ = some (.string ⟨#[99, 117, 116]⟩) ∧ W.cell? ⟨0, 25, none⟩ = some (.bool true) ∧ W.cell? ⟨0, 26, none⟩ = some (.bool false) ∧ W.cell? ⟨0, 27, none⟩ = some (.bool false) :=
 ⟨h 6 _ rfl 0 _ rfl, h 6 _ rfl 1 _ rfl, h 6 _ rfl 2 _ rfl, h 6 _ rfl 3 _ rfl⟩
theorem Glf.f7 {W : World} (h : Glf W) : W.cell? ⟨0, 28, none⟩ = some (.string ⟨#[98, 101, 103, 105, 110]⟩) ∧ W.cell? ⟨0, 29, none⟩ = some (.bool false) ∧ W.cell? ⟨0, 30, none⟩ = some (.bool false) ∧ W.cell? ⟨0, 31, none⟩ = some (.bool false) :=
 ⟨h 7 _ rfl 0 _ rfl, h 7 _ rfl 1 _ rfl, h 7 _ rfl 2 _ rfl, h 7 _ rfl 3 _ rfl⟩
theorem Glf.f8 {W : World} (h : Glf W) : W.cell? ⟨0, 32, none⟩ = some (.string ⟨#[101, 110, 100]⟩) ∧ W.cell? ⟨0, 33, none⟩ = some (.bool false) ∧ W.cell? ⟨0, 34, none⟩ = some (.bool false) ∧ W.cell? ⟨0, 35, none⟩ = some (.bool false) :=
 ⟨h 8 _ rfl 0 _ rfl, h 8 _ rfl 1 _ rfl, h 8 _ rfl 2 _ rfl, h 8 _ rfl 3 _ rfl⟩
theorem Glf.f9 {W : World} (h : Glf W) : W.cell? ⟨0, 36, none⟩ = some (.string ⟨#[117, 110, 100, 111]⟩) ∧ W.cell? ⟨0, 37, none⟩ = some (.bool false) ∧ W.cell? ⟨0, 38, none⟩ = some (.bool false) ∧ W.cell? ⟨0, 39, none⟩ = some (.bool false) :=
 ⟨h 9 _ rfl 0 _ rfl, h 9 _ rfl 1 _ rfl, h 9 _ rfl 2 _ rfl, h 9 _ rfl 3 _ rfl⟩

theorem form_open {W : World} {fuel : Nat} {cs : List Value} {x : List UInt8 × Bool × Bool × Bool} {p : List MemPlace} (h : DataW.trod (fun _ => ()) Tryd.prog W 0 (fun _ => true) false fuel 39 cs = some (formD x, p)) : cs = formV x := by
 obtain ⟨xs, n, rfl, hx, hl, hn, hel⟩ := DataW.trod_struct Tryd.underlying39 h
 have hc : Tryd.prog.cellsOf 39 = 4 := by kernel_rfl
 have hs : Tryd.prog.cellsOf 9 = 1 := by kernel_rfl
 have hb : Tryd.prog.cellsOf 4 = 1 := by kernel_rfl
 rw [hc] at hl
 match xs, hn with
 | [x0, x1, x2, x3], _ =>
 match cs, hl with
 | [c0, c1, c2, c3], _ =>
 have h0 : DataW.trod (fun _ => ()) Tryd.prog W 0 (fun _ => true) false n 9 (([c0, c1, c2, c3].drop 0).take (Tryd.prog.cellsOf 9)) = some x0 := hel 0 _ rfl
 have h1 : DataW.trod (fun _ => ()) Tryd.prog W 0 (fun _ => true) false n 4 (([c0, c1, c2, c3].drop 1).take (Tryd.prog.cellsOf 4)) = some x1 := hel 1 _ rfl
 have h2 : DataW.trod (fun _ => ()) Tryd.prog W 0 (fun _ => true) false n 4 (([c0, c1, c2, c3].drop 2).take (Tryd.prog.cellsOf 4)) = some x2 := hel 2 _ rfl
 have h3 : DataW.trod (fun _ => ()) Tryd.prog W 0 (fun _ => true) false n 4 (([c0, c1, c2, c3].drop 3).take (Tryd.prog.cellsOf 4)) = some x3 := hel 3 _ rfl
 rw [hs] at h0
 rw [hb] at h1 h2 h3
 obtain ⟨s, e0, f0, -⟩ := DataW.trod_string Tryd.underlying9 h0
 obtain ⟨b1, e1, f1⟩ := DataW.trod_bool Tryd.underlying4 h1
 obtain ⟨b2, e2, f2⟩ := DataW.trod_bool Tryd.underlying4 h2
 obtain ⟨b3, e3, f3⟩ := DataW.trod_bool Tryd.underlying4 h3
 simp at e0 e1 e2 e3
 subst e0 e1 e2 e3 f0 f1 f2 f3
 obtain ⟨s', a, b, c⟩ := x
 simp only [formD, List.map_cons, List.map_nil, Prod.mk.injEq, DataW.agg.injEq, List.cons.injEq, DataW.lit.injEq, Lit.string.injEq, Lit.bool.injEq] at hx
 obtain ⟨⟨rfl, rfl, rfl, rfl, -⟩, -⟩ := hx
 rfl
theorem forms_open {W : World} {fuel : Nat} {cs : List Value} {p : List MemPlace} (h : DataW.trod (fun _ => ()) Tryd.prog W 0 (fun _ => true) false fuel 40 cs = some (.agg (forms.map formD), p)) : ∀ k x, forms[k]? = some x → ∀ r v, (formV x)[r]? = some v → cs[k * 4 + r]? = some v := by
 obtain ⟨xs, n, rfl, hx, hl, hn, hel⟩ := DataW.trod_array Tryd.underlying40 h
 have hc : Tryd.prog.cellsOf 39 = 4 := by kernel_rfl
 intro k x hk r v hv
 have hk10 : k < 10 := by have := (List.getElem?_eq_some_iff.1 hk).1; simpa [forms] using this
 have h1 := hel k hk10
 rw [hc] at h1
 have hxm : xs.map (·.1) = forms.map formD := (DataW.agg.inj (Prod.mk.inj hx).1).symm
 have h2 : (xs[k]?).map (·.1) = some (formD x) := by rw [← List.getElem?_map, hxm, List.getElem?_map, hk]; rfl
 obtain ⟨y, hy, hy1⟩ := Option.map_eq_some_iff.1 h2
 rw [hy] at h1
 obtain ⟨y1, y2⟩ := y
 simp only at hy1
 subst hy1
 have h3 := form_open h1
 rw [← h3] at hv
 rw [List.getElem?_take] at hv
 split at hv
 ·
  rw [List.getElem?_drop] at hv; exact hv
 ·
  cases hv
end Go.Proofs.YtjgfbcmgnjgapaaDoor
