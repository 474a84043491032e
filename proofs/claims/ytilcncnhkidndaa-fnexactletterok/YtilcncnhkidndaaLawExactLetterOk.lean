/- For all letters of the law's own type that the law takes (a bounded size), LetterOk of the program answers as the specification's LetterOk. No conditions. -/
import Derived.Test.YtilcncnhkidndaaRows
import Derived.Test.YtilcncnhkidndaaWhole
import Derived.Test.YtilcncnhkidndaaFlLetter
import Derived.Test.YtilcncnhkidndaaL5c
import Derived.WalkKit
import Derived.ProofKit
import Derived.OpenShut
import Derived.ShutString
import Derived.ChangeOld
import Derived.Below
namespace Go.Proofs.Ytilcncnhkidndaa.fnExactLetterOk
open Go.ChangeShapes Go.WideShapes Go.ChangeAt Go.RowKit
open Go.ChangeMaps (open_string shut_string)
set_option linter.unusedVariables false

set_option maxRecDepth 100000 in
set_option maxHeartbeats 1000000 in
theorem walk (x0 : LE) (w : World) (hf0 : FitLE x0) :
  Calls Try.prog 4 #[.agg #[.string x0.s, .string x0.b]] w fun e w' => e = .returned (.bool true) ∧ Below w.heap.size w w' := by
 by_cases ht : ((x0.s.size + x0.b.size : Nat) : Int) ≤ 1048576
 ·
  have H0 := Lib.hid (szR_pos (left := 1048576) ht)
  have HZ := Lib.hid (show ¬ ((1048576 : Int) - ((x0.s.size + x0.b.size : Nat) : Int) < 0) from by omega)
  obtain ⟨Z, HZ2, HZ3⟩ : ∃ Z : Int, Hid ((1048576 : Int) - ((x0.s.size + x0.b.size : Nat) : Int) = Z) ∧ ¬ (Z < 0) := ⟨_, Lib.hid rfl, HZ.out⟩
  rw [HZ2.out] at H0
  obtain ⟨V1, eV1, -, B0_n, hV1⟩ := al1 w rfl #[.string x0.s, .string x0.b] 31
  have hw_1 := hV1
  have qB00 : V1.cell? ⟨w.heap.size, 0, none⟩ = some (.string x0.s) := B0_n.cell 0
  have qB01 : V1.cell? ⟨w.heap.size, 1, none⟩ = some (.string x0.b) := B0_n.cell 1
  go_enter Try.func4, Try.ntmps4
  go_wp2_with fail
  clear qB00 qB01
  refine (szLetter_c x0 1048576 _ hf0 (by omega) (by omega)).mono ?_
  rw [H0.out]
  rintro e w2 ⟨rfl, hb2⟩
  have B0_2 := B0_n.next hb2
  clear B0_n
  have hw_2 := below_next hw_1 hb2
  have qB00 : w2.cell? ⟨w.heap.size, 0, none⟩ = some (.string x0.s) := B0_2.cell 0
  have qB01 : w2.cell? ⟨w.heap.size, 1, none⟩ = some (.string x0.b) := B0_2.cell 1
  go_wp2_with fail
  clear qB00 qB01
  refine (toLetter_c x0 _).mono ?_
  rintro e w3 ⟨rfl, hb3⟩
  have B0_3 := B0_2.next hb3
  clear B0_2
  have hw_3 := below_next hw_2 hb3
  have qB00 : w3.cell? ⟨w.heap.size, 0, none⟩ = some (.string x0.s) := B0_3.cell 0
  have qB01 : w3.cell? ⟨w.heap.size, 1, none⟩ = some (.string x0.b) := B0_3.cell 1
  go_wp2_with fail
  clear qB00 qB01
  refine (specLOk x0 _ hf0).mono ?_
  rintro e w4 ⟨rfl, hb4⟩
  have B0_4 := B0_3.next hb4
  clear B0_3
  have hw_4 := below_next hw_3 hb4
  have qB00 : w4.cell? ⟨w.heap.size, 0, none⟩ = some (.string x0.s) := B0_4.cell 0
  have qB01 : w4.cell? ⟨w.heap.size, 1, none⟩ = some (.string x0.b) := B0_4.cell 1
  go_wp2_with fail
  clear qB00 qB01
  refine (toLetter_c x0 _).mono ?_
  rintro e w5 ⟨rfl, hb5⟩
  have B0_5 := B0_4.next hb5
  clear B0_4
  have hw_5 := below_next hw_4 hb5
  have qB00 : w5.cell? ⟨w.heap.size, 0, none⟩ = some (.string x0.s) := B0_5.cell 0
  have qB01 : w5.cell? ⟨w.heap.size, 1, none⟩ = some (.string x0.b) := B0_5.cell 1
  go_wp2_with fail
  clear qB00 qB01
  refine (implLOk x0 _ hf0).mono ?_
  rintro e w6 ⟨rfl, hb6⟩
  have B0_6 := B0_5.next hb6
  clear B0_5
  have hw_6 := below_next hw_5 hb6
  have qB00 : w6.cell? ⟨w.heap.size, 0, none⟩ = some (.string x0.s) := B0_6.cell 0
  have qB01 : w6.cell? ⟨w.heap.size, 1, none⟩ = some (.string x0.b) := B0_6.cell 1
  go_wp2
  go_ret
  exact ⟨rfl, hw_6⟩
 ·
  have H0 := Lib.hid (szR_neg (left := 1048576) (k := x0.s.size + x0.b.size) (by omega))
  obtain ⟨V1, eV1, -, B0_n, hV1⟩ := al1 w rfl #[.string x0.s, .string x0.b] 31
  have hw_1 := hV1
  have qB00 : V1.cell? ⟨w.heap.size, 0, none⟩ = some (.string x0.s) := B0_n.cell 0
  have qB01 : V1.cell? ⟨w.heap.size, 1, none⟩ = some (.string x0.b) := B0_n.cell 1
  go_enter Try.func4, Try.ntmps4
  go_wp2_with fail
  clear qB00 qB01
  refine (szLetter_c x0 1048576 _ hf0 (by omega) (by omega)).mono ?_
  rw [H0.out]
  rintro e w2 ⟨rfl, hb2⟩
  have B0_2 := B0_n.next hb2
  clear B0_n
  have hw_2 := below_next hw_1 hb2
  have qB00 : w2.cell? ⟨w.heap.size, 0, none⟩ = some (.string x0.s) := B0_2.cell 0
  have qB01 : w2.cell? ⟨w.heap.size, 1, none⟩ = some (.string x0.b) := B0_2.cell 1
  go_wp2
  go_ret
  exact ⟨rfl, hw_2⟩

set_option maxRecDepth 100000 in
theorem lifted (os : Os) (started : os.Started) (H : Type) (enc : TypeId × Value → H) :
  ReturnsInHanded {} Try.checked os 4 .any (Rows.fnExactLetterOkSpec.pre6 enc Try.prog Try.f4 Rows.fnExactLetterOkRow.domain false) (Rows.fnExactLetterOkSpec.post enc Try.prog Try.f4 false true false false) := by
 refine returnsInHanded_of_change (C := Try.checked) Whole.own started (by kernel_rfl) Try.func4
  (ChangeSpec.witness6 (enc := enc) (C := Try.checked) false ⟨#[], #[.agg #[.string ByteArray.empty, .string ByteArray.empty]], []⟩ 8 (by kernel_rfl) (by kernel_rfl) (by kernel_rfl) (by kernel_rfl)) ?_
 intro W base args ds gs before hval0 hW hcnd _
 have hval : ∀ (j : Nat) t v, Try.f4.params[j]? = some t → args[j]? = some v → Value.okWide Try.prog W .any base t v := hval0
 have hW' := hW
 obtain ⟨p, q, hA0, hV, rfl, hfz, hnd⟩ := hW
 have hA : DataW.TrodAll enc Try.prog W 0 (fun _ => true) true Try.f4.params.toList args.toList ds p := hA0
 rw [Try.params4] at hA hval
 obtain ⟨v0, vs0, d0, ds0, p0, q0, hargs, rfl, rfl, h0, r0⟩ := trodAll_cons hA
 obtain ⟨rfl, rfl, rfl⟩ := trodAll_nil r0
 obtain rfl : args = #[v0] := by cases args; simp_all
 obtain ⟨rfl, rfl⟩ := trodVars_none hV
 have k0 := h0
 have lt0 : ∀ x ∈ p0, x.block < W.heap.size := by obtain ⟨m, hm⟩ := k0; exact DataW.trod_lt m _ _ _ hm
 obtain ⟨x0, rfl, hf0⟩ := openArgLetter1 (hval 0 31 v0 rfl rfl) h0
 clear hA0 hval0
 refine (walk x0 W hf0).mono fun e W' ⟨he, bel⟩ => ?_
 subst he
 exact ⟨_, rfl, _, _, _, [], _, [], hW', trodAll_mk1 (shut_bool Try.underlying4 _), (trodAll_cons_mk (Below.trod Whole.laidOut (by kernel_rfl) (of_decide_eq_true (by kernel_rfl)) k0 bel lt0) trodAll_mk0), rfl, bel.frame _, fun h => by cases h⟩

theorem named : Try.prog.funcNamed Rows.fnExactLetterOkRow.func = some 4 := by kernel_rfl
theorem closed : Whole.lawFacts Try.prog 4 Try.f4 Rows.fnExactLetterOkSpec Rows.fnExactLetterOkRow = true := by kernel_rfl
theorem inst : Try.f4.isInstance Try.prog Rows.fnExactLetterOkRow.origin Rows.fnExactLetterOkRow.targs := of_decide_eq_true (by kernel_rfl)
theorem wrap : Try.f4.isWrapper Try.prog Rows.fnExactLetterOkRow.wrapper Rows.fnExactLetterOkRow.mainSum := by
 unfold Func.isWrapper; first | (rw [if_pos (by decide +kernel)]; kernel_rfl) | (rw [if_neg (by decide +kernel)]; exact ⟨rfl, rfl⟩)
theorem over : Rows.fnExactLetterOkRow.holds Try.pinned (OpenSpec.ofChange Rows.fnExactLetterOkSpec) :=
 OpenClaim.holds_of_wide 4 Try.f4 rfl rfl rfl rfl rfl rfl rfl ⟨rfl, rfl, rfl, rfl, rfl⟩ rfl rfl rfl rfl rfl named Try.func4 (Whole.facts_of closed)
  inst wrap (fun os started H enc _ => lifted os started H enc)

theorem proved : Rows.FnExactLetterOkSaid := over
#print axioms proved
end Go.Proofs.Ytilcncnhkidndaa.fnExactLetterOk
