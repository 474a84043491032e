/- What one asks, at a great seat: the laws' own copies, sizes, comparisons of it; it as an argument (AkF behind ArSeat). -/
import Derived.Test.YtheblejlmlfddaaArSeat
import Derived.Deep.RegionHeld3
namespace Go.Proofs.Ytheblejlmlfddaa
open Go.RowKit
set_option linter.unusedVariables false
set_option maxRecDepth 100000

set_option maxRecDepth 100000
def csQ4 (x : Q4) : List Value := [.int .i64 x.kind, .string x.key, .string x.hi, .int .i64 x.num]
set_option maxRecDepth 100000 in
set_option maxHeartbeats 1000000 in
theorem toAsk_c (x : Q4) (w : World) :
  Calls Try.prog 85 #[.agg #[.int .i64 x.kind, .string x.key, .string x.hi, .int .i64 x.num]] w fun e w' => e = .returned (.agg #[.int .i64 x.kind, .string x.key, .string x.hi, .int .i64 x.num]) ∧ Below w.heap.size w w' := by
 go_enter Try.func85, Try.ntmps85
 go_wp2
 exact bodyPost_ret (v := .agg #[.int .i64 x.kind, .string x.key, .string x.hi, .int .i64 x.num]) (by simp [results, Try.results85, go_sem]) rfl ⟨rfl, (by (repeat (first | exact Below.refl _ _ | (refine Below.setCell ?_ (by simp <;> omega) _) | (refine Below.alloc ?_ (by simp <;> omega) _) | (refine Below.drew ?_))))⟩
set_option maxHeartbeats 1000000 in
theorem szAsk_c (x : Q4) (left : Int) (w : World) (hs : x.key.size ≤ maxLen ∧ x.hi.size ≤ maxLen) (h0 : 0 ≤ left) (h1 : left ≤ 1048576) :
  Calls Try.prog 83 #[.agg #[.int .i64 x.kind, .string x.key, .string x.hi, .int .i64 x.num], .int .i64 left] w fun e w' => e = .returned (.int .i64 (szR left (x.key.size + x.hi.size))) ∧ Below w.heap.size w w' := by
 unfold maxLen at hs
 by_cases g0 : left < ((x.key.size) : Nat)
 ·
  have hd0 : decide (left - (x.key.size : Int) < 0) = true := by simp; omega
  have HN := Lib.hid (szR_neg (left := left) (k := (x.key.size + x.hi.size)) (by omega))
  go_enter Try.func83, Try.ntmps83
  go_wp2
  go_ret
  exact ⟨ret_int HN.out.symm, (by (repeat (first | exact Below.refl _ _ | (refine Below.setCell ?_ (by simp <;> omega) _) | (refine Below.alloc ?_ (by simp <;> omega) _) | (refine Below.drew ?_))))⟩
 ·
  have hd0 : decide (left - (x.key.size : Int) < 0) = false := by simp; omega
  by_cases g1 : left < ((x.key.size + x.hi.size) : Nat)
  ·
   have hd1 : decide (left - (x.key.size : Int) - (x.hi.size : Int) < 0) = true := by simp; omega
   have HN := Lib.hid (szR_neg (left := left) (k := (x.key.size + x.hi.size)) (by omega))
   go_enter Try.func83, Try.ntmps83
   go_wp2
   go_ret
   exact ⟨ret_int HN.out.symm, (by (repeat (first | exact Below.refl _ _ | (refine Below.setCell ?_ (by simp <;> omega) _) | (refine Below.alloc ?_ (by simp <;> omega) _) | (refine Below.drew ?_))))⟩
  ·
   have hd1 : decide (left - (x.key.size : Int) - (x.hi.size : Int) < 0) = false := by simp; omega
   have HN := Lib.hid (szR_pos (left := left) (k := (x.key.size + x.hi.size)) (by omega))
   have HE := Lib.hid (show left - (x.key.size : Int) - (x.hi.size : Int) = left - ((x.key.size + x.hi.size) : Nat) from by omega)
   go_enter Try.func83, Try.ntmps83
   go_wp2
   go_ret
   exact ⟨ret_int (by rw [HN.out, ← HE.out]), (by (repeat (first | exact Below.refl _ _ | (refine Below.setCell ?_ (by simp <;> omega) _) | (refine Below.alloc ?_ (by simp <;> omega) _) | (refine Below.drew ?_))))⟩
open Classical in
noncomputable def eqQ4 (a b : Q4) : Bool := decide (a = b)
theorem eqQ4_yes {a b : Q4} (h : a = b) : eqQ4 a b = true := by unfold eqQ4; simp [h]
theorem eqQ4_no {a b : Q4} (h : a ≠ b) : eqQ4 a b = false := by unfold eqQ4; simp [h]
theorem eqQ4_iff {a b : Q4} : eqQ4 a b = true ↔ a = b := by unfold eqQ4; simp
set_option maxHeartbeats 1000000 in
theorem eqAsk_c (x y : Q4) (w : World) :
  Calls Try.prog 81 #[.agg #[.int .i64 x.kind, .string x.key, .string x.hi, .int .i64 x.num], .agg #[.int .i64 y.kind, .string y.key, .string y.hi, .int .i64 y.num]] w fun e w' => e = .returned (.bool (eqQ4 x y)) ∧ Below w.heap.size w w' := by
 by_cases h0 : x.kind = y.kind
 ·
  have b0 : (x.kind != y.kind) = false := by simp [h0]
  have H0 := Lib.hid h0
  clear h0
  by_cases h1 : x.key = y.key
  ·
   have b1 : (x.key.toList == y.key.toList) = true := by rw [h1]; simp
   have H1 := Lib.hid h1
   clear h1
   by_cases h2 : x.hi = y.hi
   ·
    have b2 : (x.hi.toList == y.hi.toList) = true := by rw [h2]; simp
    have H2 := Lib.hid h2
    clear h2
    by_cases h3 : x.num = y.num
    ·
     have b3 : (x.num != y.num) = false := by simp [h3]
     have H3 := Lib.hid h3
     clear h3
     have HE := Lib.hid (eqQ4_yes (show x = y from by
      revert H0 H1 H2 H3
      clear b0 b1 b2 b3
      cases x; cases y
      intro H0 H1 H2 H3
      have e0 := H0.out
      have e1 := H1.out
      have e2 := H2.out
      have e3 := H3.out
      simp only at e0 e1 e2 e3
      subst e0 e1 e2 e3
      rfl))
     go_enter Try.func81, Try.ntmps81
     go_wp2
     go_ret
     exact ⟨ret_bool HE.out.symm, (by (repeat (first | exact Below.refl _ _ | (refine Below.setCell ?_ (by simp <;> omega) _) | (refine Below.alloc ?_ (by simp <;> omega) _) | (refine Below.drew ?_))))⟩
    ·
     have b3 : (x.num != y.num) = true := by simp [h3]
     have HE := Lib.hid (eqQ4_no (show x ≠ y from fun e => h3 (by rw [e])))
     go_enter Try.func81, Try.ntmps81
     go_wp2
     go_ret
     exact ⟨ret_bool HE.out.symm, (by (repeat (first | exact Below.refl _ _ | (refine Below.setCell ?_ (by simp <;> omega) _) | (refine Below.alloc ?_ (by simp <;> omega) _) | (refine Below.drew ?_))))⟩
   ·
    have b2 := str_ne h2
    have HE := Lib.hid (eqQ4_no (show x ≠ y from fun e => h2 (by rw [e])))
    go_enter Try.func81, Try.ntmps81
    go_wp2
    go_ret
    exact ⟨ret_bool HE.out.symm, (by (repeat (first | exact Below.refl _ _ | (refine Below.setCell ?_ (by simp <;> omega) _) | (refine Below.alloc ?_ (by simp <;> omega) _) | (refine Below.drew ?_))))⟩
  ·
   have b1 := str_ne h1
   have HE := Lib.hid (eqQ4_no (show x ≠ y from fun e => h1 (by rw [e])))
   go_enter Try.func81, Try.ntmps81
   go_wp2
   go_ret
   exact ⟨ret_bool HE.out.symm, (by (repeat (first | exact Below.refl _ _ | (refine Below.setCell ?_ (by simp <;> omega) _) | (refine Below.alloc ?_ (by simp <;> omega) _) | (refine Below.drew ?_))))⟩
 ·
  have b0 : (x.kind != y.kind) = true := by simp [h0]
  have HE := Lib.hid (eqQ4_no (show x ≠ y from fun e => h0 (by rw [e])))
  go_enter Try.func81, Try.ntmps81
  go_wp2
  go_ret
  exact ⟨ret_bool HE.out.symm, (by (repeat (first | exact Below.refl _ _ | (refine Below.setCell ?_ (by simp <;> omega) _) | (refine Below.alloc ?_ (by simp <;> omega) _) | (refine Below.drew ?_))))⟩
end Go.Proofs.Ytheblejlmlfddaa
namespace Go.Proofs.Ytheblejlmlfddaa
open Go.ChangeShapes Go.WideShapes Go.ChangeAt Go.RowKit Go.Deep
set_option linter.unusedVariables false
set_option maxRecDepth 100000

set_option maxRecDepth 100000
theorem cellsLawAsk : Try.prog.cellsOf 123 = 4 := by kernel_rfl
theorem structLawAsk : ∃ f0 f1 f2 f3 : Field, Try.prog.underlying 123 = some (.struct #[f0, f1, f2, f3]) ∧ f0.offset = 0 ∧ f0.type = 3 ∧ f1.offset = 1 ∧ f1.type = 9 ∧ f2.offset = 2 ∧ f2.type = 9 ∧ f3.offset = 3 ∧ f3.type = 3 := by
 have h := Try.underlying123
 exact ⟨_, _, _, _, h, rfl, rfl, rfl, rfl, rfl, rfl, rfl, rfl⟩
theorem oneAsks : Try.prog.cellsOf 9 = 1 := by kernel_rfl
theorem oneAski : Try.prog.cellsOf 3 = 1 := by kernel_rfl
theorem decQ4 {H : Type} {enc : TypeId × Value → H} {W : World} (n : Nat) (cs' : List Value) (x : DataW H × List MemPlace) (h : DataW.trod enc Try.prog W 0 (fun _ => true) true n 123 cs' = some x) :
  ∃ a : Q4, cs' = csQ4 a ∧ FitQ a := by
 obtain ⟨f0, f1, f2, f3, hs, o0, t0, o1, t1, o2, t2, o3, t3⟩ := structLawAsk
 obtain ⟨xs, k, _, _, hl, hxl, hf⟩ := DataW.trod_struct hs h
 rw [cellsLawAsk] at hl
 match xs, hxl, cs', hl with
 | [y0, y1, y2, y3], _, [v0, v1, v2, v3], _ =>
  have g0 := hf 0 f0 rfl
  rw [o0, t0, oneAski] at g0
  simp only [List.drop_zero, List.take_succ_cons, List.take_zero, List.getElem?_cons_zero] at g0
  obtain ⟨s0, e0, _, z0⟩ := DataW.trod_int Try.underlying3 g0
  simp only [List.cons.injEq, and_true] at e0
  subst e0
  have g1 := hf 1 f1 rfl
  rw [o1, t1, oneAsks] at g1
  simp only [List.drop_zero, List.drop_succ_cons, List.take_succ_cons, List.take_zero, List.getElem?_cons_zero, List.getElem?_cons_succ] at g1
  obtain ⟨s1, e1, _, z1⟩ := DataW.trod_string Try.underlying9 g1
  simp only [List.cons.injEq, and_true] at e1
  subst e1
  have g2 := hf 2 f2 rfl
  rw [o2, t2, oneAsks] at g2
  simp only [List.drop_zero, List.drop_succ_cons, List.take_succ_cons, List.take_zero, List.getElem?_cons_zero, List.getElem?_cons_succ] at g2
  obtain ⟨s2, e2, _, z2⟩ := DataW.trod_string Try.underlying9 g2
  simp only [List.cons.injEq, and_true] at e2
  subst e2
  have g3 := hf 3 f3 rfl
  rw [o3, t3, oneAski] at g3
  simp only [List.drop_zero, List.drop_succ_cons, List.take_succ_cons, List.take_zero, List.getElem?_cons_zero, List.getElem?_cons_succ] at g3
  obtain ⟨s3, e3, _, z3⟩ := DataW.trod_int Try.underlying3 g3
  simp only [List.cons.injEq, and_true] at e3
  subst e3
  exact ⟨⟨s0, s1, s2, s3⟩, rfl, fitI_of z0, z1, z2, fitI_of z3⟩
/-- one statement, as an argument -/
theorem openArgAsk1 {H : Type} {enc : TypeId × Value → H} {W : World} {r : Reach} {b0 : Nat} {v : Value} {d : DataW H} {p : List MemPlace}
  (hv : Value.okWide Try.prog W r b0 123 v) (h : DataW.Trod enc Try.prog W 0 (fun _ => true) true 123 v d p) :
  ∃ x : Q4, v = .agg #[.int .i64 x.kind, .string x.key, .string x.hi, .int .i64 x.num] ∧ FitQ x := by
 obtain ⟨f0, f1, f2, f3, hs, _⟩ := structLawAsk
 obtain ⟨cs, rfl, hsz⟩ := okWide_struct hs hv
 obtain ⟨fuel, hf⟩ := h
 obtain ⟨a, e, ha⟩ := decQ4 fuel _ _ hf
 obtain ⟨cl⟩ := cs
 simp only [Value.cells] at e
 subst e
 exact ⟨a, rfl, ha⟩

end Go.Proofs.Ytheblejlmlfddaa
