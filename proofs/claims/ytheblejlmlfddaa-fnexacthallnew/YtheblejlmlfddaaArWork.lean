/- Work: the laws' copies, sizes, comparisons and marks; the argument opened. -/
import Derived.Test.YtheblejlmlfddaaA5
import Derived.Test.YtheblejlmlfddaaA6
namespace Go.Proofs.Ytheblejlmlfddaa
open Go.ChangeShapes Go.WideShapes Go.ChangeAt Go.RowKit Go.Deep
set_option linter.unusedVariables false
set_option maxRecDepth 100000

theorem cellsLawWork : Try.prog.cellsOf 87 = 2 := by kernel_rfl
theorem oneWriteS : Try.prog.cellsOf 85 = 1 := by kernel_rfl
theorem structLawWork : ∃ f0 f1 : Field, Try.prog.underlying 87 = some (.struct #[f0, f1]) ∧ f0.offset = 0 ∧ f0.type = 3 ∧ f1.offset = 1 ∧ f1.type = 85 := by
 have h := Try.underlying87
 exact ⟨_, _, h, rfl, rfl, rfl, rfl⟩
theorem openArgWork {H : Type} {enc : TypeId × Value → H} {W : World} {r : Reach} {b0 : Nat} {v : Value} {d : DataW H} {p : List MemPlace}
  (hv : Value.okWide Try.prog W r b0 87 v) (h : DataW.Trod enc Try.prog W 0 (fun _ => true) true 87 v d p) :
  ∃ (z : Int) (A : Option Addr) (c : Nat) (l : List X), v = .agg #[.int .i64 z, .slice A l.length c] ∧ FitI z ∧ l.length ≤ c ∧ c ≤ maxLen ∧ FitXs l ∧ RdG W W.heap.size A l := by
 obtain ⟨f0, f1, hs, o0, t0, o1, t1⟩ := structLawWork
 obtain ⟨cs, rfl, hsz⟩ := okWide_struct hs hv
 obtain ⟨fuel, hf⟩ := h
 obtain ⟨xs, k, _, _, hl, hxl, hf⟩ := DataW.trod_struct hs hf
 rw [cellsLawWork] at hl
 obtain ⟨cl⟩ := cs
 simp only [Value.cells] at hl hf
 match xs, hxl, cl, hl with
 | [y0, y1], _, [v0, v1], _ =>
  have g0 := hf 0 f0 rfl
  rw [o0, t0, oneVeri] at g0
  simp only [List.drop_zero, List.take_succ_cons, List.take_zero, List.getElem?_cons_zero] at g0
  obtain ⟨s0, e0, _, z0⟩ := DataW.trod_int Try.underlying3 g0
  simp only [List.cons.injEq, and_true] at e0
  subst e0
  have g1 := hf 1 f1 rfl
  rw [o1, t1, oneWriteS] at g1
  simp only [List.drop_zero, List.drop_succ_cons, List.take_succ_cons, List.take_zero, List.getElem?_cons_zero, List.getElem?_cons_succ] at g1
  obtain ⟨A, c, l, rfl, h1, h2, h3, h4⟩ := openWriteS g1
  exact ⟨s0, A, c, l, rfl, fitI_of z0, h1, h2, h3, h4⟩

set_option maxHeartbeats 1000000 in
theorem szWork_c (z : Int) (A : Option Addr) (c : Nat) (l : List X) (left : Int) (w : World) (hfit : FitXs l) (hc : l.length ≤ c) (hcm : c ≤ maxLen) (h0 : 0 ≤ left) (h1 : left ≤ 1048576) (hr : RdG w w.heap.size A l) :
  Calls Try.prog 75 #[.agg #[.int .i64 z, .slice A l.length c], .int .i64 left] w fun e w' => e = .returned (.int .i64 (szR left (totalX l))) ∧ Below w.heap.size w w' := by
 have hb0 : Below w.heap.size w (w.alloc (.cells #[.int .i64 z, .slice A l.length c] 87)) := below_alloc (Below.refl _ _) _
 by_cases h : left < (totalX l : Int)
 ·
  have HN := Lib.hid (szR_neg h)
  go_enter Try.func75, Try.ntmps75
  go_wp2_with fail
  refine (szWriteS_c A c l left _ hfit hc hcm h0 h1 (hr.next hb0)).mono ?_
  rintro e w1 ⟨rfl, hb1⟩
  rw [HN.out]
  go_wp2
  go_ret
  exact ⟨ret_int HN.out.symm, below_next hb0 hb1⟩
 ·
  have HN := Lib.hid (szR_pos (left := left) (k := totalX l) (by omega))
  have hnn : decide (left - (totalX l : Int) < 0) = false := by simp; omega
  go_enter Try.func75, Try.ntmps75
  go_wp2_with fail
  refine (szWriteS_c A c l left _ hfit hc hcm h0 h1 (hr.next hb0)).mono ?_
  rintro e w1 ⟨rfl, hb1⟩
  rw [HN.out]
  go_wp2
  go_ret
  exact ⟨ret_int HN.out.symm, below_next hb0 hb1⟩

set_option maxRecDepth 100000 in
set_option maxHeartbeats 1000000 in
theorem toWork_c (z : Int) (A : Option Addr) (c : Nat) (l : List X) (w : World) (hc : l.length ≤ c) (hcm : l.length ≤ 1048576) (hr : RdG w w.heap.size A l) :
  Calls Try.prog 77 #[.agg #[.int .i64 z, .slice A l.length c]] w fun e w' => ∃ g, e = .returned (.agg #[.int .i64 z, .slice (some ⟨g, 0, none⟩) l.length l.length]) ∧ OwnG w' w.heap.size (.slice (some ⟨g, 0, none⟩) l.length l.length) l ∧ w.heap.size ≤ g ∧ g < w'.heap.size ∧ Below w.heap.size w w' := by
 go_enter Try.func77, Try.ntmps77
 go_wp2_with fail
 refine (toWriteOwn_c A c l _ hc hcm (hr.next (by (repeat (first | exact Below.refl _ _ | (refine Below.setCell ?_ (by simp <;> omega) _) | (refine Below.alloc ?_ (by simp <;> omega) _)))))).mono ?_
 rintro e w1 ⟨g, rfl, hX, hg, hg', hb1⟩
 have h1 := (((blkA (w.alloc (.cells #[.int .i64 z, .slice A l.length c] 87)) #[.int .i64 0, .slice none 0 0] 52).alloc (.cells #[.int .i64 z, .slice none 0 0] 52))).next hb1
 have h2 := (blkA ((w.alloc (.cells #[.int .i64 z, .slice A l.length c] 87)).alloc (.cells #[.int .i64 0, .slice none 0 0] 52)) #[.int .i64 z, .slice none 0 0] 52).next hb1
 have hb0 : Below w.heap.size w (((w.alloc (.cells #[.int .i64 z, .slice A l.length c] 87)).alloc (.cells #[.int .i64 0, .slice none 0 0] 52)).alloc (.cells #[.int .i64 z, .slice none 0 0] 52)) := below_alloc (below_alloc (below_alloc (Below.refl _ _) _) _) _
 have hb := below_next hb0 hb1
 simp only [World.size_alloc] at h1 h2 hg hX
 clear hb1 hb0
 have c10 : w1.cell? ⟨w.heap.size + 1, 0, none⟩ = some (.int .i64 0) := by rw [h1.cell]; rfl
 have c11 : w1.cell? ⟨w.heap.size + 1, 1, none⟩ = some (.slice none 0 0) := by rw [h1.cell]; rfl
 have c20 : w1.cell? ⟨w.heap.size + 1 + 1, 0, none⟩ = some (.int .i64 z) := by rw [h2.cell]; rfl
 have c21 : w1.cell? ⟨w.heap.size + 1 + 1, 1, none⟩ = some (.slice none 0 0) := by rw [h2.cell]; rfl
 have f10 := h1.free 0
 have f11 := h1.free 1
 have f20 := h2.free 0
 have f21 := h2.free 1
 go_wp2
 refine bodyPost_ret (v := .agg #[.int .i64 z, .slice (some ⟨g, 0, none⟩) l.length l.length]) (by simp [results, Try.results77, go_sem, c10, c11]) rfl ⟨g, rfl, ?_, by omega, by simpa [World.setCell] using hg', ?_⟩
 ·
  have hne : ∀ k, k = w.heap.size + 1 ∨ k = w.heap.size + 1 + 1 → ∀ g', (Value.slice (some ⟨g, 0, none⟩) l.length l.length).ownBlock = some g' → g' ≠ k := by
   intro k hk g' hg'
   have : g = g' := Option.some.inj hg'
   omega
  exact ((((hX.setCell (hne _ (.inr rfl)) _).setCell (hne _ (.inl rfl)) _).setCell (hne _ (.inl rfl)) _)).low (by omega)
 ·
  exact ((hb.setCell (by simp <;> omega) _).setCell (by simp <;> omega) _).setCell (by simp <;> omega) _

/-- two are one -/
noncomputable def sameW (z z' : Int) (l l' : List X) : Bool := decide (z = z') && eqXs l l'
theorem sameW_refl (z : Int) (l : List X) : sameW z z l l = true := by unfold sameW; rw [eqXs_yes rfl]; simp
theorem sameW_iff {z z' : Int} {l l' : List X} : sameW z z' l l' = true ↔ z = z' ∧ l = l' := by unfold sameW; simp [eqXs_iff]

set_option maxHeartbeats 1000000 in
theorem eqWork_c (z z' : Int) (v v' : Value) (l l' : List X) (base base' : Nat) (w : World) (h : OwnG w base v l) (h' : OwnG w base' v' l') (hl : l.length ≤ 2097152) (hl' : l'.length ≤ 2097152) :
  Calls Try.prog 73 #[.agg #[.int .i64 z, v], .agg #[.int .i64 z', v']] w fun e w' => e = .returned (.bool (sameW z z' l l')) ∧ Below w.heap.size w w' := by
 obtain ⟨A, n, c, rfl⟩ := h.slice
 obtain ⟨A', n', c', rfl⟩ := h'.slice
 have hb0 : Below w.heap.size w ((w.alloc (.cells #[.int .i64 z, .slice A n c] 52)).alloc (.cells #[.int .i64 z', .slice A' n' c'] 52)) := below_alloc (below_alloc (Below.refl _ _) _) _
 by_cases hz : z = z'
 ·
  have hb : (z != z') = false := by simp [hz]
  have HE := Lib.hid (show sameW z z' l l' = eqXs l l' from by unfold sameW; simp [hz])
  clear hz
  cases he : eqXs l l'
  ·
   go_enter Try.func73, Try.ntmps73
   go_wp2_with fail
   refine (eqWriteOwn_c _ _ l l' _ _ _ (h.next hb0) (h'.next hb0) hl hl').mono ?_
   rintro e w1 ⟨rfl, hb1⟩
   rw [he]
   go_wp2
   go_ret
   exact ⟨ret_bool (by rw [HE.out, he]), below_next hb0 hb1⟩
  ·
   go_enter Try.func73, Try.ntmps73
   go_wp2_with fail
   refine (eqWriteOwn_c _ _ l l' _ _ _ (h.next hb0) (h'.next hb0) hl hl').mono ?_
   rintro e w1 ⟨rfl, hb1⟩
   rw [he]
   go_wp2
   go_ret
   exact ⟨ret_bool (by rw [HE.out, he]), below_next hb0 hb1⟩
 ·
  have hb : (z != z') = true := by simp [hz]
  have HE := Lib.hid (show sameW z z' l l' = false from by unfold sameW; simp [hz])
  clear hz
  go_enter Try.func73, Try.ntmps73
  go_wp2
  go_ret
  exact ⟨ret_bool HE.out.symm, hb0⟩

/-- one thing that is done, as an argument -/
theorem openArgWrite1 {H : Type} {enc : TypeId × Value → H} {W : World} {r : Reach} {b0 : Nat} {v : Value} {d : DataW H} {p : List MemPlace}
  (hv : Value.okWide Try.prog W r b0 136 v) (h : DataW.Trod enc Try.prog W 0 (fun _ => true) true 136 v d p) :
  ∃ x : X, v = .agg #[.string x.k, .int .i64 x.n, .bool x.g] ∧ FitX x := by
 obtain ⟨f0, f1, f2, hs, _⟩ := structLawWrite
 obtain ⟨cs, rfl, hsz⟩ := okWide_struct hs hv
 obtain ⟨fuel, hf⟩ := h
 obtain ⟨a, e, ha⟩ := decX fuel _ _ hf
 obtain ⟨cl⟩ := cs
 simp only [Value.cells] at e
 subst e
 exact ⟨a, rfl, ha⟩

end Go.Proofs.Ytheblejlmlfddaa
