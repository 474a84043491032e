/- HallNew of the program answers as the specification's HallNew, and its answer is its own: what is written into it is not seen by a second call. No conditions. -/
import Derived.Test.YtheblejlmlfddaaRows
import Derived.Test.YtheblejlmlfddaaWhole
import Derived.Test.YtheblejlmlfddaaHnH
import Derived.WalkKit
import Derived.ProofKit
import Derived.OpenShut
import Derived.ShutString
import Derived.ChangeOld
import Derived.Below
namespace Go.Proofs.Ytheblejlmlfddaa.fnExactHallNew
open Go.ChangeShapes Go.WideShapes Go.ChangeAt Go.RowKit
open Go.ChangeMaps (open_string shut_string)
set_option linter.unusedVariables false

set_option maxRecDepth 100000 in
set_option maxHeartbeats 1000000 in
theorem walk  (w : World)  :
  Calls Try.prog 3 #[] w fun e w' => e = .returned (.bool true) ∧ Below w.heap.size w w' := by
 go_enter Try.func3, Try.ntmps3
 go_wp2_with fail
 refine (specHallNew _).mono ?_
 rintro e w1 ⟨A, n, c, B, m, d, rfl, o1, o2, hb1⟩
 obtain ⟨W2, e2, hs2, X2, b2⟩ := al1 w1 rfl #[.int .i64 0, .slice none 0 0, .slice none 0 0] 27
 have f2 := X2.fz
 have q2 := X2.c3
 obtain ⟨W3, e3, hs3, X3, k3⟩ := s3 X2 (.int .i64 0) (.slice A n c) (.slice B m d)
 have sep1 : ∀ k, (Value.slice A n c).ownBlock = some k → k < w1.heap.size := fun k hk => (o1.block_lt hk).2
 have sep2 : ∀ k, (Value.slice B m d).ownBlock = some k → k < w1.heap.size := fun k hk => (o2.block_lt hk).2
 replace o1 := (o1.next b2).chg k3 (fun k hk => by have := (o1.block_lt hk).2; omega)
 replace o2 := (o2.next b2).chg k3 (fun k hk => by have := (o2.block_lt hk).2; omega)
 replace hb1 := belowChgd (below_next hb1 b2) k3 hb1.size
 have hz1 := hb1.size
 clear X2 b2 k3
 go_wp2_with fail
 clear q2 f2 e2 e3
 refine (implHallNew _).mono ?_
 rintro e w4 ⟨g, rfl, o4, b4⟩
 replace o1 := o1.next b4
 replace o2 := o2.next b4
 replace hb1 := below_next hb1 b4
 have X4 := X3.next b4
 obtain ⟨hg1, hg2⟩ := o4.block_lt rfl
 obtain ⟨W5, e5, hs5, Y5, b5⟩ := al1 w4 rfl #[.int .i64 0, .slice none 0 0, .slice none 0 0] 27
 have f5 := Y5.fz
 have q5 := Y5.c3
 obtain ⟨W6, e6, hs6, Y6, k6⟩ := s3 Y5 (.int .i64 0) (.slice none 0 0) (.slice (some ⟨g, 0, none⟩) 3 3)
 replace o1 := (o1.next b5).chg k6 (fun k hk => by have := (o1.block_lt hk).2; omega)
 replace o2 := (o2.next b5).chg k6 (fun k hk => by have := (o2.block_lt hk).2; omega)
 have hz4 := b4.size
 replace hb1 := belowChgd (below_next hb1 b5) k6 (by omega)
 have X6 := (X4.next b5).chg1 k6
 have o6 := (o4.next b5).chg k6 (fun k hk => by have := (o4.block_lt hk).2; omega)
 have x6 := X6.c3
 have y6 := Y6.c3
 clear X3 X4 o4 Y5 b4 b5 k6
 go_wp2_with fail
 clear q5 f5 e5 e6
 refine (eqHallN (OwnG.nil _ _) o6 o1 o2).mono ?_
 rintro e w7 ⟨rfl, b7⟩
 have o7 := o6.next b7
 replace o1 := o1.next b7
 replace o2 := o2.next b7
 have X7 := X6.next b7
 have Y7 := Y6.next b7
 replace hb1 := below_next hb1 b7
 have hz7 := b7.size
 have y7 := Y7.c3
 clear x6 y6 X6 Y6 o6 b7
 go_wp2_with fail
 refine (markHallN o7).mono ?_
 rintro e w8 ⟨rfl, o8, k8⟩
 have hb8 := belowChgd hb1 k8 (by omega)
 have hz8 := k8.size
 have X8 := X7.chg1 k8
 have Y8 := Y7.chg1 k8
 have y8 := Y8.c3
 replace o1 := o1.chg k8 (fun k hk => by have := sep1 k hk; omega)
 replace o2 := o2.chg k8 (fun k hk => by have := sep2 k hk; omega)
 clear y7 X7 Y7 o7 k8 hb1
 go_wp2_with fail
 refine (heldHallN o8).mono ?_
 rintro e w9 ⟨rfl, b9⟩
 have o9 := o8.next b9
 replace o1 := o1.next b9
 replace o2 := o2.next b9
 have X9 := X8.next b9
 have Y9 := Y8.next b9
 replace hb8 := below_next hb8 b9
 clear y8 X8 Y8 o8 b9
 go_wp2_with fail
 refine (implHallNew _).mono ?_
 rintro e w10 ⟨h, rfl, oh, b10⟩
 replace o9 := o9.next b10
 replace o1 := o1.next b10
 replace o2 := o2.next b10
 replace X9 := X9.next b10
 replace Y9 := Y9.next b10
 replace hb8 := below_next hb8 b10
 obtain ⟨W11, e11, hs11, Z11, b11⟩ := al1 w10 rfl #[.int .i64 0, .slice none 0 0, .slice none 0 0] 27
 have f11 := Z11.fz
 have q11 := Z11.c3
 obtain ⟨W12, e12, hs12, Z12, k12⟩ := s3 Z11 (.int .i64 0) (.slice none 0 0) (.slice (some ⟨h, 0, none⟩) 3 3)
 have hx9 := X9.lt
 have hy9 := Y9.lt
 have hzz := hb8.size
 replace hb8 := belowChgd (below_next hb8 b11) k12 (by omega)
 replace o9 := (o9.next b11).chg k12 (fun k hk => by have := (o9.block_lt hk).2; omega)
 replace o1 := (o1.next b11).chg k12 (fun k hk => by have := (o1.block_lt hk).2; omega)
 replace o2 := (o2.next b11).chg k12 (fun k hk => by have := (o2.block_lt hk).2; omega)
 replace oh := (oh.next b11).chg k12 (fun k hk => by have := (oh.block_lt hk).2; omega)
 have X12 := (X9.next b11).chg1 k12
 have Y12 := (Y9.next b11).chg1 k12
 have x12 := X12.c3
 have z12 := Z12.c3
 clear X9 Y9 Z11 b10 b11 k12
 go_wp2_with fail
 clear q11 f11 e11 e12
 refine (eqHallN (OwnG.nil _ _) oh o1 o2).mono ?_
 rintro e w13 ⟨rfl, b13⟩
 have o13 := o9.next b13
 have Y13 := Y12.next b13
 have y13 := Y13.c3
 replace hb8 := below_next hb8 b13
 clear x12 z12 X12 Y12 Z12 o1 o2 oh o9 b13
 go_wp2_with fail
 refine (heldHallN o13).mono ?_
 rintro e w14 ⟨rfl, b14⟩
 go_wp2
 go_ret
 exact ⟨rfl, below_next hb8 b14⟩

set_option maxRecDepth 100000 in
theorem lifted (os : Os) (started : os.Started) (H : Type) (enc : TypeId × Value → H) :
  ReturnsInHanded {} Try.checked os 3 .any (Rows.fnExactHallNewSpec.pre6 enc Try.prog Try.f3 Rows.fnExactHallNewRow.domain false) (Rows.fnExactHallNewSpec.post enc Try.prog Try.f3 false true false false) := by
 refine returnsInHanded_of_change (C := Try.checked) Whole.own started (by kernel_rfl) Try.func3
  (ChangeSpec.witness6 (enc := enc) (C := Try.checked) false ⟨#[], #[], []⟩ 8 (by kernel_rfl) (by kernel_rfl) (by kernel_rfl) (by kernel_rfl)) ?_
 intro W base args ds gs before hval0 hW hcnd _
 have hval : ∀ (j : Nat) t v, Try.f3.params[j]? = some t → args[j]? = some v → Value.okWide Try.prog W .any base t v := hval0
 have hW' := hW
 obtain ⟨p, q, hA0, hV, rfl, hfz, hnd⟩ := hW
 have hA : DataW.TrodAll enc Try.prog W 0 (fun _ => true) true Try.f3.params.toList args.toList ds p := hA0
 rw [Try.params3] at hA hval
 obtain ⟨hargs, rfl, rfl⟩ := trodAll_nil hA
 obtain rfl : args = #[] := by cases args; simp_all
 obtain ⟨rfl, rfl⟩ := trodVars_none hV
 clear hA0 hval0
 refine (walk  W ).mono fun e W' ⟨he, bel⟩ => ?_
 subst he
 exact ⟨_, rfl, _, _, _, [], _, [], hW', trodAll_mk1 (shut_bool Try.underlying4 _), trodAll_mk0, rfl, bel.frame _, fun h => by cases h⟩

theorem named : Try.prog.funcNamed Rows.fnExactHallNewRow.func = some 3 := by kernel_rfl
theorem closed : Whole.lawFacts Try.prog 3 Try.f3 Rows.fnExactHallNewSpec Rows.fnExactHallNewRow = true := by kernel_rfl
theorem inst : Try.f3.isInstance Try.prog Rows.fnExactHallNewRow.origin Rows.fnExactHallNewRow.targs := of_decide_eq_true (by kernel_rfl)
theorem wrap : Try.f3.isWrapper Try.prog Rows.fnExactHallNewRow.wrapper Rows.fnExactHallNewRow.mainSum := by
 unfold Func.isWrapper; first | (rw [if_pos (by decide +kernel)]; kernel_rfl) | (rw [if_neg (by decide +kernel)]; exact ⟨rfl, rfl⟩)
theorem over : Rows.fnExactHallNewRow.holds Try.pinned (OpenSpec.ofChange Rows.fnExactHallNewSpec) :=
 OpenClaim.holds_of_wide 3 Try.f3 rfl rfl rfl rfl rfl rfl rfl ⟨rfl, rfl, rfl, rfl, rfl⟩ rfl rfl rfl rfl rfl named Try.func3 (Whole.facts_of closed)
  inst wrap (fun os started H enc _ => lifted os started H enc)

theorem proved : Rows.FnExactHallNewSaid := over
#print axioms proved
end Go.Proofs.Ytheblejlmlfddaa.fnExactHallNew
