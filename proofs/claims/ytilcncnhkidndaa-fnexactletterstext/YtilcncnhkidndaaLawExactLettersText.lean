/- For all lists of letters of the law's own type that the law takes (a bounded size), LettersText of the program answers as the specification's LettersText, and leaves its argument as it was. No conditions. -/
import Derived.Test.YtilcncnhkidndaaRows
import Derived.Test.YtilcncnhkidndaaWhole
import Derived.Test.YtilcncnhkidndaaFlLetter
import Derived.Test.YtilcncnhkidndaaL5u
import Derived.WalkKit
import Derived.ProofKit
import Derived.OpenShut
import Derived.ShutString
import Derived.ChangeOld
import Derived.Below
namespace Go.Proofs.Ytilcncnhkidndaa.fnExactLettersText
open Go.ChangeShapes Go.WideShapes Go.ChangeAt Go.RowKit
open Go.ChangeMaps (open_string shut_string)
set_option linter.unusedVariables false

set_option maxRecDepth 100000 in
set_option maxHeartbeats 1000000 in
theorem walk (A0 : Option Addr) (c0 : Nat) (l0 : List LE) (w : World) (hc0 : l0.length ≤ c0) (hm0 : c0 ≤ maxLen) (hf0 : FitLEs l0) (hr0 : RdG w w.heap.size A0 l0) :
  Calls Try.prog 6 #[.slice A0 l0.length c0] w fun e w' => e = .returned (.bool true) ∧ Below w.heap.size w w' := by
 by_cases ht : (totalLE l0 : Int) ≤ 1048576
 ·
  have hlen : l0.length ≤ 1048576 := by have := totalLE_len l0; omega
  have htt : totalLE l0 ≤ 2097152 := by omega
  have H0 := Lib.hid (szR_pos (left := 1048576) ht)
  obtain ⟨Z, HZ2, HZ3⟩ : ∃ Z : Int, Hid ((1048576 : Int) - (totalLE l0 : Int) = Z) ∧ ¬ (Z < 0) := ⟨_, Lib.hid rfl, by omega⟩
  rw [HZ2.out] at H0
  clear ht
  obtain ⟨TX, HTX⟩ : ∃ x, Hid (bo (textsL l0) = x) := ⟨_, Lib.hid rfl⟩
  have HE := Lib.hid (eqLEs_yes (rfl : l0 = l0))
  go_enter Try.func6, Try.ntmps6
  have R_0 := Lib.hid (hr0)
  go_wp2_with fail
  refine (szLetterS_c A0 c0 l0 1048576 _ hf0 hc0 hm0 (by omega) (by omega) R_0.out).mono ?_
  rw [H0.out]
  rintro e w1 ⟨rfl, hb1⟩
  have R_1 := Lib.hid (R_0.out.next hb1)
  clear R_0
  have hw_1 := hb1
  go_wp2_with fail
  refine (toLetterOwn_c A0 c0 l0 _ hc0 hlen R_1.out).mono ?_
  rintro e w2 ⟨gY, rfl, Y_n, -, -, hb2⟩
  have R_2 := Lib.hid (R_1.out.next hb2)
  clear R_1
  have hw_2 := below_next hw_1 hb2
  have Y_0 := Lib.hid (Y_n)
  clear Y_n
  go_wp2_with fail
  refine (specTexts _ l0.length l0 _ hf0 htt (Nat.le_refl _) (Y_0.out.rd').2.2.2).mono ?_
  rw [HTX.out]
  rintro e w3 ⟨rfl, hb3⟩
  have R_3 := Lib.hid (R_2.out.next hb3)
  clear R_2
  have Y_3 := Lib.hid (Y_0.out.next hb3)
  clear Y_0
  have hw_3 := below_next hw_2 hb3
  go_wp2_with fail
  refine (toLetterOwn_c A0 c0 l0 _ hc0 hlen R_3.out).mono ?_
  rintro e w4 ⟨gX, rfl, X_n, -, -, hb4⟩
  have R_4 := Lib.hid (R_3.out.next hb4)
  clear R_3
  have hw_4 := below_next hw_3 hb4
  have X_0 := Lib.hid (X_n)
  clear X_n
  go_wp2_with fail
  refine (implTexts _ l0.length l0 _ hf0 htt (Nat.le_refl _) (X_0.out.rd').2.2.2).mono ?_
  rw [HTX.out]
  rintro e w5 ⟨rfl, hb5⟩
  have R_5 := Lib.hid (R_4.out.next hb5)
  clear R_4
  have X_5 := Lib.hid (X_0.out.next hb5)
  clear X_0
  have hw_5 := below_next hw_4 hb5
  go_wp2_with fail
  refine (toLetterOwn_c A0 c0 l0 _ hc0 hlen R_5.out).mono ?_
  rintro e w6 ⟨gZz, rfl, Zz_n, -, -, hb6⟩
  have R_6 := Lib.hid (R_5.out.next hb6)
  clear R_5
  have X_6 := Lib.hid (X_5.out.next hb6)
  clear X_5
  have hw_6 := below_next hw_5 hb6
  have Zz_0 := Lib.hid (Zz_n)
  clear Zz_n
  go_wp2_with fail
  refine (eqLetterOwn_c _ _ l0 l0 _ _ _ X_6.out Zz_0.out (by omega) (by omega)).mono ?_
  rw [HE.out]
  rintro e w7 ⟨rfl, hb7⟩
  have R_7 := Lib.hid (R_6.out.next hb7)
  clear R_6
  have X_7 := Lib.hid (X_6.out.next hb7)
  clear X_6
  have Zz_7 := Lib.hid (Zz_0.out.next hb7)
  clear Zz_0
  have hw_7 := below_next hw_6 hb7
  go_wp2
  go_ret
  exact ⟨rfl, hw_7⟩
 ·
  have H0 := Lib.hid (szR_neg (left := 1048576) (k := totalLE l0) (by omega))
  go_enter Try.func6, Try.ntmps6
  go_wp2_with fail
  refine (szLetterS_c A0 c0 l0 1048576 _ hf0 hc0 hm0 (by omega) (by omega) hr0).mono ?_
  rw [H0.out]
  rintro e w1 ⟨rfl, hb1⟩
  have hw_1 := hb1
  go_wp2
  go_ret
  exact ⟨rfl, hw_1⟩

set_option maxRecDepth 100000 in
theorem lifted (os : Os) (started : os.Started) (H : Type) (enc : TypeId × Value → H) :
  ReturnsInHanded {} Try.checked os 6 .any (Rows.fnExactLettersTextSpec.pre6 enc Try.prog Try.f6 Rows.fnExactLettersTextRow.domain false) (Rows.fnExactLettersTextSpec.post enc Try.prog Try.f6 false true false false) := by
 refine returnsInHanded_of_change (C := Try.checked) Whole.own started (by kernel_rfl) Try.func6
  (ChangeSpec.witness6 (enc := enc) (C := Try.checked) false ⟨#[], #[.slice none 0 0], []⟩ 8 (by kernel_rfl) (by kernel_rfl) (by kernel_rfl) (by kernel_rfl)) ?_
 intro W base args ds gs before hval0 hW hcnd _
 have hval : ∀ (j : Nat) t v, Try.f6.params[j]? = some t → args[j]? = some v → Value.okWide Try.prog W .any base t v := hval0
 have hW' := hW
 obtain ⟨p, q, hA0, hV, rfl, hfz, hnd⟩ := hW
 have hA : DataW.TrodAll enc Try.prog W 0 (fun _ => true) true Try.f6.params.toList args.toList ds p := hA0
 rw [Try.params6] at hA hval
 obtain ⟨v0, vs0, d0, ds0, p0, q0, hargs, rfl, rfl, h0, r0⟩ := trodAll_cons hA
 obtain ⟨rfl, rfl, rfl⟩ := trodAll_nil r0
 obtain rfl : args = #[v0] := by cases args; simp_all
 obtain ⟨rfl, rfl⟩ := trodVars_none hV
 have k0 := h0
 have lt0 : ∀ x ∈ p0, x.block < W.heap.size := by obtain ⟨m, hm⟩ := k0; exact DataW.trod_lt m _ _ _ hm
 obtain ⟨A0, c0, l0, rfl, hc0, hm0, hf0, hr0⟩ := openArgLetter (hval 0 35 v0 rfl rfl) h0
 clear hA0 hval0
 refine (walk A0 c0 l0 W hc0 hm0 hf0 hr0).mono fun e W' ⟨he, bel⟩ => ?_
 subst he
 exact ⟨_, rfl, _, _, _, [], _, [], hW', trodAll_mk1 (shut_bool Try.underlying4 _), (trodAll_cons_mk (Below.trod Whole.laidOut (by kernel_rfl) (of_decide_eq_true (by kernel_rfl)) k0 bel lt0) trodAll_mk0), rfl, bel.frame _, fun h => by cases h⟩

theorem named : Try.prog.funcNamed Rows.fnExactLettersTextRow.func = some 6 := by kernel_rfl
theorem closed : Whole.lawFacts Try.prog 6 Try.f6 Rows.fnExactLettersTextSpec Rows.fnExactLettersTextRow = true := by kernel_rfl
theorem inst : Try.f6.isInstance Try.prog Rows.fnExactLettersTextRow.origin Rows.fnExactLettersTextRow.targs := of_decide_eq_true (by kernel_rfl)
theorem wrap : Try.f6.isWrapper Try.prog Rows.fnExactLettersTextRow.wrapper Rows.fnExactLettersTextRow.mainSum := by
 unfold Func.isWrapper; first | (rw [if_pos (by decide +kernel)]; kernel_rfl) | (rw [if_neg (by decide +kernel)]; exact ⟨rfl, rfl⟩)
theorem over : Rows.fnExactLettersTextRow.holds Try.pinned (OpenSpec.ofChange Rows.fnExactLettersTextSpec) :=
 OpenClaim.holds_of_wide 6 Try.f6 rfl rfl rfl rfl rfl rfl rfl ⟨rfl, rfl, rfl, rfl, rfl⟩ rfl rfl rfl rfl rfl named Try.func6 (Whole.facts_of closed)
  inst wrap (fun os started H enc _ => lifted os started H enc)

theorem proved : Rows.FnExactLettersTextSaid := over
#print axioms proved
end Go.Proofs.Ytilcncnhkidndaa.fnExactLettersText
