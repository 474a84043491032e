/- FnRowsBent: a list that is not valid gives nothing. -/
import Derived.Test.YtabpepddbkipiaaRows
import Derived.Test.YtabpepddbkipiaaWhole
import Derived.Test.YtabpepddbkipiaaArgB
import Derived.Test.YtabpepddbkipiaaDraw5
import Derived.Test.YtabpepddbkipiaaIn4
import Derived.WalkKit
import Derived.ProofKit
import Derived.OpenShut
import Derived.ShutString
import Derived.ChangeOld
import Derived.Below
namespace Go.Proofs.Ytabpepddbkipiaa.fnRowsBent
open Go.ChangeShapes Go.WideShapes Go.ChangeAt Go.RowKit
open Go.ChangeMaps (open_string shut_string)
set_option linter.unusedVariables false

theorem fit_a : FitR [((⟨#[97]⟩ : ByteArray), (1 : Int))] := fun r hr => by
  have : r = ((⟨#[97]⟩ : ByteArray), (1 : Int)) := by simpa using hr
  subst this
  exact ⟨by show (1 : Nat) ≤ maxLen; unfold maxLen; omega, by decide⟩
set_option maxRecDepth 100000 in
set_option maxHeartbeats 1000000 in
theorem walk (A0 : Option Addr) (n0 c0 : Nat) (w : World) (hc0 : n0 ≤ c0) (hm0 : c0 ≤ maxLen) (hr0 : RdB w w.heap.size A0 n0) :
    Calls Try.prog 20 #[.slice A0 n0 c0] w fun e w' => e = .returned (.bool true) ∧ Below w.heap.size w w' := by
  by_cases hn : (1048576 : Int) < (n0 : Int)
  · go_enter Try.func20, Try.ntmps20
    go_wp2
    go_ret
    exact ⟨rfl, Below.refl _ _⟩
  go_enter Try.func20, Try.ntmps20
  go_wp2_with fail
  refine (drawOk A0 n0 c0 w hc0 hm0 hr0).mono ?_
  rintro e w1 ⟨v, l, rfl, hO1, hf, hl, hb1⟩
  go_wp2_with fail
  refine (implOkO hO1 hf (by omega)).mono ?_
  rintro e w2 ⟨rfl, hb2⟩
  have hw2 := below_next hb1 hb2
  have hO2 := hO1.next hb2
  cases hok : rowsB l
  · have hP := bad_of hok
    go_wp2_with fail
    refine (specOkO hO2 hf).mono ?_
    rintro e w3 ⟨rfl, hb3⟩
    rw [hok]
    have hw3 := below_next hw2 hb3
    have hO3 := hO2.next hb3
    have HP := Lib.hid hP
    clear hP hO1 hO2
    go_wp2_with fail
    refine (implGetO ⟨#[97]⟩ hO3 hf (by omega)).mono ?_
    rintro e w4 ⟨rfl, hb4⟩
    rw [HP.out.getN, HP.out.getB]
    have hw4 := below_next hw3 hb4
    have hO4 := hO3.next hb4
    clear hO3
    go_wp2_with fail
    refine (implPutO ⟨#[97]⟩ 1 hO4 hf fit_a (by omega)).mono ?_
    rw [HP.out.putV, HP.out.putOk]
    rintro e w5 ⟨v5, rfl, hX5, hb5⟩
    have hw5 := below_next hw4 hb5
    have hO5 := hO4.next hb5
    obtain ⟨A5, c5, rfl, _, _, _⟩ := hX5.read
    clear hO4 hX5
    go_wp2_with fail
    refine (implCutO ⟨#[97]⟩ hO5 hf (by omega)).mono ?_
    rw [HP.out.cutV, HP.out.cutOk]
    rintro e w6 ⟨v6, rfl, hX6, hb6⟩
    have hw6 := below_next hw5 hb6
    have hO6 := hO5.next hb6
    obtain ⟨A6, c6, rfl, _, _, _⟩ := hX6.read
    clear hO5 hX6
    go_wp2_with fail
    refine (implInO _ _ hO6 hf (by omega)).mono ?_
    rw [HP.out.inV]
    rintro e w7 ⟨v7, rfl, hX7, hb7⟩
    have hw7 := below_next hw6 hb7
    have hO7 := hO6.next hb7
    obtain ⟨A7, c7, rfl, _, _, _⟩ := hX7.read
    clear hO6 hX7
    go_wp2_with fail
    refine (implSumO hO7 hf (by omega)).mono ?_
    rw [HP.out.sum]
    rintro e w8 ⟨rfl, hb8⟩
    have hw8 := below_next hw7 hb8
    have hO8 := hO7.next hb8
    clear hO7
    go_wp2_with fail
    refine (implDiffO hO8 (OwnR.nil w8 0) hf (fun r hr => by simp at hr) (by omega) (by simp)).mono ?_
    rw [HP.out.diff]
    rintro e w9 ⟨v9, rfl, hX9, hb9⟩
    obtain ⟨A9, c9, rfl, _, _, _⟩ := hX9.read
    go_wp2
    go_ret
    exact ⟨rfl, below_next hw8 hb9⟩
  · go_wp2_with fail
    refine (specOkO hO2 hf).mono ?_
    rintro e w3 ⟨rfl, hb3⟩
    rw [hok]
    have hw3 := below_next hw2 hb3
    have hO3 := hO2.next hb3
    go_wp2_with fail
    refine (specOkO hO3 hf).mono ?_
    rintro e w4 ⟨rfl, hb4⟩
    rw [hok]
    go_wp2
    go_ret
    exact ⟨rfl, below_next hw3 hb4⟩

set_option maxRecDepth 100000 in
theorem lifted (os : Os) (started : os.Started) (H : Type) (enc : TypeId × Value → H) :
    ReturnsInHanded {} Try.checked os 20 .any (Rows.fnRowsBentSpec.pre6 enc Try.prog Try.f20 Rows.fnRowsBentRow.domain false) (Rows.fnRowsBentSpec.post enc Try.prog Try.f20 false true false false) := by
  refine returnsInHanded_of_change (C := Try.checked) Whole.own started (by kernel_rfl) Try.func20
    (ChangeSpec.witness6 (enc := enc) (C := Try.checked) false ⟨#[], #[.slice none 0 0], []⟩ 8 (by kernel_rfl) (by kernel_rfl) (by kernel_rfl) (by kernel_rfl)) ?_
  intro W base args ds gs before hval0 hW hcnd _
  have hval : ∀ (j : Nat) t v, Try.f20.params[j]? = some t → args[j]? = some v → Value.okWide Try.prog W .any base t v := hval0
  have hW' := hW
  obtain ⟨p, q, hA0, hV, rfl, hfz, hnd⟩ := hW
  have hA : DataW.TrodAll enc Try.prog W 0 (fun _ => true) true Try.f20.params.toList args.toList ds p := hA0
  rw [Try.params20] at hA hval
  obtain ⟨v0, vs0, d0, ds0, p0, q0, hargs, rfl, rfl, h0, r0⟩ := trodAll_cons hA
  obtain ⟨rfl, rfl, rfl⟩ := trodAll_nil r0
  obtain rfl : args = #[v0] := by cases args; simp_all
  obtain ⟨rfl, rfl⟩ := trodVars_none hV
  have k0 := h0
  have lt0 : ∀ x ∈ p0, x.block < W.heap.size := by obtain ⟨m, hm⟩ := k0; exact DataW.trod_lt m _ _ _ hm
  obtain ⟨A0, n0, c0, rfl, hc0, hm0, hr0⟩ := openBytes (hval 0 46 v0 rfl rfl) h0
  clear hA0 hval0
  refine (walk A0 n0 c0 W hc0 hm0 hr0).mono fun e W' ⟨he, bel⟩ => ?_
  subst he
  exact ⟨_, rfl, _, _, _, [], _, [], hW', trodAll_mk1 (shut_bool Try.underlying4 _), (trodAll_cons_mk (Below.trod Whole.laidOut (by kernel_rfl) (of_decide_eq_true (by kernel_rfl)) k0 bel lt0) trodAll_mk0), rfl, bel.frame _, fun h => by cases h⟩

theorem named : Try.prog.funcNamed Rows.fnRowsBentRow.func = some 20 := by kernel_rfl
theorem closed : Whole.lawFacts Try.prog 20 Try.f20 Rows.fnRowsBentSpec Rows.fnRowsBentRow = true := by kernel_rfl
theorem inst : Try.f20.isInstance Try.prog Rows.fnRowsBentRow.origin Rows.fnRowsBentRow.targs := of_decide_eq_true (by kernel_rfl)
theorem wrap : Try.f20.isWrapper Try.prog Rows.fnRowsBentRow.wrapper Rows.fnRowsBentRow.mainSum := by
  unfold Func.isWrapper; first | (rw [if_pos (by decide +kernel)]; kernel_rfl) | (rw [if_neg (by decide +kernel)]; exact ⟨rfl, rfl⟩)
theorem over : Rows.fnRowsBentRow.holds Try.pinned (OpenSpec.ofChange Rows.fnRowsBentSpec) :=
  OpenClaim.holds_of_wide 20 Try.f20 rfl rfl rfl rfl rfl rfl rfl ⟨rfl, rfl, rfl, rfl, rfl⟩ rfl rfl rfl rfl rfl named Try.func20 (Whole.facts_of closed)
    inst wrap (fun os started H enc _ => lifted os started H enc)

theorem proved : Rows.FnRowsBentSaid := over
#print axioms proved
end Go.Proofs.Ytabpepddbkipiaa.fnRowsBent
