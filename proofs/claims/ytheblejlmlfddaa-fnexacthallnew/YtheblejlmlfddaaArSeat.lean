/- Seat: the laws' copies, sizes, comparisons; the argument opened. -/
import Derived.Test.YtheblejlmlfddaaArWork
import Derived.Test.YtheblejlmlfddaaF4
import Derived.Test.YtheblejlmlfddaaY4a
namespace Go.Proofs.Ytheblejlmlfddaa
open Go.ChangeShapes Go.WideShapes Go.ChangeAt Go.RowKit Go.Deep
set_option linter.unusedVariables false
set_option maxRecDepth 100000

theorem cellsLawSeat : Try.prog.cellsOf 89 = 4 := by kernel_rfl
theorem structLawSeat : ∃ f0 f1 f2 : Field, Try.prog.underlying 89 = some (.struct #[f0, f1, f2]) ∧ f0.offset = 0 ∧ f0.type = 4 ∧ f1.offset = 1 ∧ f1.type = 4 ∧ f2.offset = 2 ∧ f2.type = 87 := by
 have h := Try.underlying89
 exact ⟨_, _, _, h, rfl, rfl, rfl, rfl, rfl, rfl⟩
theorem openWorkC {H : Type} {enc : TypeId × Value → H} {W : World} {fuel : Nat} {cs : List Value} {x : DataW H × List MemPlace} (hf : DataW.trod enc Try.prog W 0 (fun _ => true) true fuel 87 cs = some x) :
  ∃ (z : Int) (A : Option Addr) (c : Nat) (l : List X), cs = [.int .i64 z, .slice A l.length c] ∧ FitI z ∧ l.length ≤ c ∧ c ≤ maxLen ∧ FitXs l ∧ RdG W W.heap.size A l := by
 obtain ⟨f0, f1, hs, o0, t0, o1, t1⟩ := structLawWork
 obtain ⟨xs, k, _, _, hl, hxl, hf⟩ := DataW.trod_struct hs hf
 rw [cellsLawWork] at hl
 match xs, hxl, cs, hl with
 | [y0, y1], _, [v0, v1], _ =>
  have g0 := hf 0 f0 rfl
  rw [o0, t0, oneVeri] at g0
  simp only [List.drop_zero, List.take_succ_cons, List.take_zero, List.getElem?_cons_zero] at g0
  obtain ⟨s0, e0, _, z0⟩ := DataW.trod_int Try.underlying3 g0
  simp only [List.cons.injEq, and_true] at e0
  subst e0
  have g1 := hf 1 f1 rfl
  rw [o1, t1, oneWriteS] at g1
  simp only [List.drop_zero, List.drop_succ_cons, List.take_succ_cons, List.take_zero, List.getElem?_cons_zero, List.getElem?_cons_succ] at g1
  obtain ⟨A, c, l, rfl, h1, h2, h3, h4⟩ := openWriteS g1
  exact ⟨s0, A, c, l, rfl, fitI_of z0, h1, h2, h3, h4⟩
theorem openArgSeat {H : Type} {enc : TypeId × Value → H} {W : World} {r : Reach} {b0 : Nat} {v : Value} {d : DataW H} {p : List MemPlace}
  (hv : Value.okWide Try.prog W r b0 89 v) (h : DataW.Trod enc Try.prog W 0 (fun _ => true) true 89 v d p) :
  ∃ (o q : Bool) (z : Int) (A : Option Addr) (c : Nat) (l : List X), v = .agg #[.bool o, .bool q, .int .i64 z, .slice A l.length c] ∧ FitI z ∧ l.length ≤ c ∧ c ≤ maxLen ∧ FitXs l ∧ RdG W W.heap.size A l := by
 obtain ⟨f0, f1, f2, hs, o0, t0, o1, t1, o2, t2⟩ := structLawSeat
 obtain ⟨cs, rfl, hsz⟩ := okWide_struct hs hv
 obtain ⟨fuel, hf⟩ := h
 obtain ⟨xs, k, _, _, hl, hxl, hf⟩ := DataW.trod_struct hs hf
 rw [cellsLawSeat] at hl
 obtain ⟨cl⟩ := cs
 simp only [Value.cells] at hl hf
 match xs, hxl, cl, hl with
 | [y0, y1, y2], _, [v0, v1, v2, v3], _ =>
  have g0 := hf 0 f0 rfl
  rw [o0, t0, oneVerb] at g0
  simp only [List.drop_zero, List.take_succ_cons, List.take_zero, List.getElem?_cons_zero] at g0
  obtain ⟨s0, e0, _⟩ := DataW.trod_bool Try.underlying4 g0
  simp only [List.cons.injEq, and_true] at e0
  subst e0
  have g1 := hf 1 f1 rfl
  rw [o1, t1, oneVerb] at g1
  simp only [List.drop_zero, List.drop_succ_cons, List.take_succ_cons, List.take_zero, List.getElem?_cons_zero, List.getElem?_cons_succ] at g1
  obtain ⟨s1, e1, _⟩ := DataW.trod_bool Try.underlying4 g1
  simp only [List.cons.injEq, and_true] at e1
  subst e1
  have g2 := hf 2 f2 rfl
  rw [o2, t2, cellsLawWork] at g2
  simp only [List.drop_zero, List.drop_succ_cons, List.take_succ_cons, List.take_zero, List.getElem?_cons_zero, List.getElem?_cons_succ] at g2
  obtain ⟨z, A, c, l, e2, h1, h2, h3, h4, h5⟩ := openWorkC g2
  simp only [List.cons.injEq, and_true] at e2
  obtain ⟨rfl, rfl⟩ := e2
  exact ⟨s0, s1, z, A, c, l, rfl, h1, h2, h3, h4, h5⟩

set_option maxHeartbeats 1000000 in
theorem szSeat_c (o q : Bool) (z : Int) (A : Option Addr) (c : Nat) (l : List X) (left : Int) (w : World) (hfit : FitXs l) (hc : l.length ≤ c) (hcm : c ≤ maxLen) (h0 : 0 ≤ left) (h1 : left ≤ 1048576) (hr : RdG w w.heap.size A l) :
  Calls Try.prog 66 #[.agg #[.bool o, .bool q, .int .i64 z, .slice A l.length c], .int .i64 left] w fun e w' => e = .returned (.int .i64 (szR left (totalX l))) ∧ Below w.heap.size w w' := by
 have hb0 : Below w.heap.size w (w.alloc (.cells #[.bool o, .bool q, .int .i64 z, .slice A l.length c] 89)) := below_alloc (Below.refl _ _) _
 by_cases h : left < (totalX l : Int)
 ·
  have HN := Lib.hid (szR_neg h)
  go_enter Try.func66, Try.ntmps66
  go_wp2_with fail
  refine (szWork_c z A c l left _ hfit hc hcm h0 h1 (hr.next hb0)).mono ?_
  rintro e w1 ⟨rfl, hb1⟩
  rw [HN.out]
  go_wp2
  go_ret
  exact ⟨ret_int HN.out.symm, below_next hb0 hb1⟩
 ·
  have HN := Lib.hid (szR_pos (left := left) (k := totalX l) (by omega))
  have hnn : decide (left - (totalX l : Int) < 0) = false := by simp; omega
  go_enter Try.func66, Try.ntmps66
  go_wp2_with fail
  refine (szWork_c z A c l left _ hfit hc hcm h0 h1 (hr.next hb0)).mono ?_
  rintro e w1 ⟨rfl, hb1⟩
  rw [HN.out]
  go_wp2
  go_ret
  exact ⟨ret_int HN.out.symm, below_next hb0 hb1⟩

set_option maxHeartbeats 1000000 in
theorem toSeat_c (o q : Bool) (z : Int) (A : Option Addr) (c : Nat) (l : List X) (w : World) (hc : l.length ≤ c) (hcm : l.length ≤ 1048576) (hr : RdG w w.heap.size A l) :
  Calls Try.prog 70 #[.agg #[.bool o, .bool q, .int .i64 z, .slice A l.length c]] w fun e w' => ∃ g, e = .returned (.agg #[.bool o, .bool q, .int .i64 z, .slice (some ⟨g, 0, none⟩) l.length l.length]) ∧ OwnG w' w.heap.size (.slice (some ⟨g, 0, none⟩) l.length l.length) l ∧ w.heap.size ≤ g ∧ g < w'.heap.size ∧ Below w.heap.size w w' := by
 go_enter Try.func70, Try.ntmps70
 go_wp2_with fail
 refine (toWork_c z A c l _ hc hcm (hr.next (by (repeat (first | exact Below.refl _ _ | (refine Below.setCell ?_ (by simp <;> omega) _) | (refine Below.alloc ?_ (by simp <;> omega) _)))))).mono ?_
 rintro e w1 ⟨g, rfl, hX, hg, hg', hb1⟩
 have h1 := (((blkA (w.alloc (.cells #[.bool o, .bool q, .int .i64 z, .slice A l.length c] 89)) #[.bool false, .bool false, .int .i64 0, .slice none 0 0] 54).alloc (.cells #[.bool o, .bool q, .int .i64 0, .slice none 0 0] 54))).next hb1
 have h2 := (blkA ((w.alloc (.cells #[.bool o, .bool q, .int .i64 z, .slice A l.length c] 89)).alloc (.cells #[.bool false, .bool false, .int .i64 0, .slice none 0 0] 54)) #[.bool o, .bool q, .int .i64 0, .slice none 0 0] 54).next hb1
 have hb0 : Below w.heap.size w (((w.alloc (.cells #[.bool o, .bool q, .int .i64 z, .slice A l.length c] 89)).alloc (.cells #[.bool false, .bool false, .int .i64 0, .slice none 0 0] 54)).alloc (.cells #[.bool o, .bool q, .int .i64 0, .slice none 0 0] 54)) := below_alloc (below_alloc (below_alloc (Below.refl _ _) _) _) _
 have hb := below_next hb0 hb1
 simp only [World.size_alloc] at h1 h2 hg hX
 clear hb1 hb0
 have c1 := h1.c4
 have c2 := h2.c4
 have f10 := h1.free 0
 have f11 := h1.free 1
 have f12 := h1.free 2
 have f13 := h1.free 3
 have f20 := h2.free 0
 have f21 := h2.free 1
 have f22 := h2.free 2
 have f23 := h2.free 3
 go_wp2
 refine bodyPost_ret (v := .agg #[.bool o, .bool q, .int .i64 z, .slice (some ⟨g, 0, none⟩) l.length l.length]) (by simp [results, Try.results70, go_sem, c1]) rfl ⟨g, rfl, ?_, by omega, by simpa [World.setCell] using hg', ?_⟩
 ·
  have hne : ∀ k, k = w.heap.size + 1 ∨ k = w.heap.size + 1 + 1 → ∀ g', (Value.slice (some ⟨g, 0, none⟩) l.length l.length).ownBlock = some g' → g' ≠ k := by
   intro k hk g' hg'
   have : g = g' := Option.some.inj hg'
   omega
  exact ((((((hX.setCell (hne _ (.inr rfl)) _).setCell (hne _ (.inr rfl)) _).setCell (hne _ (.inl rfl)) _).setCell (hne _ (.inl rfl)) _).setCell (hne _ (.inl rfl)) _).setCell (hne _ (.inl rfl)) _).low (by omega)
 ·
  exact (((((hb.setCell (by simp <;> omega) _).setCell (by simp <;> omega) _).setCell (by simp <;> omega) _).setCell (by simp <;> omega) _).setCell (by simp <;> omega) _).setCell (by simp <;> omega) _

set_option maxHeartbeats 1000000 in
theorem eqSeat_c (o q : Bool) (z : Int) (v v' : Value) (l : List X) (base base' : Nat) (w : World) (h : OwnG w base v l) (h' : OwnG w base' v' l) (hl : l.length ≤ 2097152) :
  Calls Try.prog 63 #[.agg #[.bool o, .bool q, .int .i64 z, v], .agg #[.bool o, .bool q, .int .i64 z, v']] w fun e w' => e = .returned (.bool true) ∧ Below w.heap.size w w' := by
 obtain ⟨A, n, c, rfl⟩ := h.slice
 obtain ⟨A', n', c', rfl⟩ := h'.slice
 have hb0 : Below w.heap.size w ((w.alloc (.cells #[.bool o, .bool q, .int .i64 z, .slice A n c] 54)).alloc (.cells #[.bool o, .bool q, .int .i64 z, .slice A' n' c'] 54)) := below_alloc (below_alloc (Below.refl _ _) _) _
 have ho : (o != o) = false := by simp
 have hq : (q != q) = false := by simp
 have HE := Lib.hid (sameW_refl z l)
 go_enter Try.func63, Try.ntmps63
 go_wp2_with fail
 refine (eqWork_c z z _ _ l l _ _ _ (h.next hb0) (h'.next hb0) hl hl).mono ?_
 rintro e w1 ⟨rfl, hb1⟩
 rw [HE.out]
 go_wp2
 go_ret
 exact ⟨rfl, below_next hb0 hb1⟩

section
variable {w : World} {base base' : Nat} {v u u' : Value} {l : List V} {ws ws' : List X} {z a a' : Int} {on bad on' bad' : Bool}
theorem specSeatSameS (h : OwnG w base u ws) (h' : OwnG w base' u' ws') (hl : ws.length ≤ 2097152) (hl' : ws'.length ≤ 2097152) :
  Calls Try.prog 54 #[.agg #[.bool on, .bool bad, .int .i64 a, u], .agg #[.bool on', .bool bad', .int .i64 a', u']] w fun e w' => e = .returned (.bool (sameS ⟨on, bad, a, ws⟩ ⟨on', bad', a', ws'⟩)) ∧ Below w.heap.size w w' := by
 obtain ⟨A, c, rfl, h1, h2, hr⟩ := h.read
 obtain ⟨B, d, rfl, h3, h4, hr'⟩ := h'.read
 exact specSeatSame on bad a A c ws on' bad' a' B d ws' w hl hl' hr hr'
end

end Go.Proofs.Ytheblejlmlfddaa
