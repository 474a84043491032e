/- The law FnRowsCutTwo: for every two codes, of the rows and keys that they draw: two puts (two deletions) in either order come to one: for every input the call returns true, and the arguments read afterwards as before. No conditions. -/
import Derived.Test.YtabpepddbkipiaaRows
import Derived.Test.YtabpepddbkipiaaWhole
import Derived.Test.YtabpepddbkipiaaArgB
import Derived.Test.YtabpepddbkipiaaWp
import Derived.Test.YtabpepddbkipiaaDraw4
import Derived.WalkKit
import Derived.ProofKit
import Derived.OpenShut
import Derived.ShutString
import Derived.ChangeOld
import Derived.Below
namespace Go.Proofs.Ytabpepddbkipiaa.fnRowsCutTwo
open Go.ChangeShapes Go.WideShapes Go.ChangeAt Go.RowKit
open Go.ChangeMaps (open_string shut_string)
set_option linter.unusedVariables false

set_option maxRecDepth 100000 in
set_option maxHeartbeats 1000000 in
theorem walk (A0 : Option Addr) (n0 c0 : Nat) (A1 : Option Addr) (n1 c1 : Nat) (w : World) (hc0 : n0 ≤ c0) (hm0 : c0 ≤ maxLen) (hr0 : RdB w w.heap.size A0 n0) (hc1 : n1 ≤ c1) (hm1 : c1 ≤ maxLen) (hr1 : RdB w w.heap.size A1 n1) :
    Calls Try.prog 18 #[.slice A0 n0 c0, .slice A1 n1 c1] w fun e w' => e = .returned (.bool true) ∧ Below w.heap.size w w' := by
  by_cases hn : (1048576 : Int) < (n0 : Int)
  · go_enter Try.func18, Try.ntmps18
    go_wp2
    go_ret
    exact ⟨rfl, Below.refl _ _⟩
  by_cases hn1 : (1048576 : Int) < (n1 : Int)
  · go_enter Try.func18, Try.ntmps18
    go_wp2
    go_ret
    exact ⟨rfl, Below.refl _ _⟩
  go_enter Try.func18, Try.ntmps18
  go_wp2_with fail
  refine (drawCut A0 n0 c0 w hc0 hm0 hr0).mono ?_
  rintro e w1 ⟨v, l, s, rfl, hO1, hf, hl, hsz, hb1⟩
  have hr1 : RdB w1 w1.heap.size A1 n1 := hr1.below hb1
  go_wp2_with fail
  refine (drawCut A1 n1 c1 w1 hc1 hm1 hr1).mono ?_
  rintro e w2 ⟨vx, lx, t, rfl, _, _, _, htz, hb2⟩
  have hw2 := below_next hb1 hb2
  have hO2 := hO1.next hb2
  have hlv := cutV_length l s
  have hfc := hf.cutV s
  go_wp2_with fail
  refine (implCutO s hO2 hf (by omega)).mono ?_
  rintro e w3 ⟨v3, rfl, hX3, hb3⟩
  have hw3 := below_next hw2 hb3
  have hO3 := hO2.next hb3
  clear hO1 hO2
  go_wp2_with fail
  refine (specCutO s hO3 hf (by omega)).mono ?_
  rintro e w4 ⟨v4, rfl, hY4, hb4⟩
  have hw4 := below_next hw3 hb4
  have hO4 := hO3.next hb4
  have hX4 := hX3.next hb4
  clear hO3 hX3
  go_wp2_with fail
  refine (wpO hX4 hY4 (by omega) (by omega)).mono ?_
  rintro e w5 ⟨rfl, hb5⟩
  rw [eqL_yes rfl]
  have hw5 := below_next hw4 hb5
  have hO5 := hO4.next hb5
  have hX5 := hX4.next hb5
  have hY5 := hY4.next hb5
  clear hO4 hX4 hY4
  cases hok : rowsB l
  · go_wp2_with fail
    refine (specOkO hO5 hf).mono ?_
    rintro e w6 ⟨rfl, hb6⟩
    rw [hok]
    have hw6 := below_next hw5 hb6
    go_wp2_with fail
    refine (wpO (hX5.next hb6) (hY5.next hb6) (by omega) (by omega)).mono ?_
    rintro e w7 ⟨rfl, hb7⟩
    rw [eqL_yes rfl]
    go_wp2
    go_ret
    exact ⟨rfl, below_next hw6 hb7⟩
  have hP := rowsB_iff.1 hok
  have hS := hP.srt
  rw [cutV_eq s hok] at hX5 hlv hfc
  have hPs := del_ok hP s
  have hPt := del_ok hP t
  have e1 : cutV (del s l) t = del t (del s l) := cutV_eq t (rowsB_yes hPs)
  have e2 : cutV l t = del t l := cutV_eq t hok
  have e3 : cutV (del t l) s = del t (del s l) := by rw [cutV_eq s (rowsB_yes hPt), del_comm hS]
  have e4 : cutV (del s l) s = del s l := by rw [cutV_eq s (rowsB_yes hPs), del_none hPs.srt (look_del_self hS)]
  have e5 : cutOk (del s l) s = false := by rw [cutOk_eq, look_del_self hS]; simp
  have hlt : (del t l).length ≤ 15 := by have := cutV_length l t; rw [e2] at this; omega
  have hlst : (del t (del s l)).length ≤ 15 := by have := cutV_length (del s l) t; rw [e1] at this; omega
  have E1 := Lib.hid e1
  have E2 := Lib.hid e2
  have E3 := Lib.hid e3
  have E4 := Lib.hid e4
  have E5 := Lib.hid e5
  clear e1 e2 e3 e4 e5
  go_wp2_with fail
  refine (specOkO hO5 hf).mono ?_
  rintro e w6 ⟨rfl, hb6⟩
  rw [hok]
  have hw6 := below_next hw5 hb6
  have hO6 := hO5.next hb6
  have hX6 := hX5.next hb6
  clear hO5 hX5 hY5
  go_wp2_with fail
  refine (implCutO t hX6 hfc (by omega)).mono ?_
  rw [E1.out]
  rintro e w7 ⟨va, rfl, hA7, hb7⟩
  have hw7 := below_next hw6 hb7
  have hO7 := hO6.next hb7
  have hX7 := hX6.next hb7
  clear hO6 hX6
  go_wp2_with fail
  refine (implCutO t hO7 hf (by omega)).mono ?_
  rw [E2.out]
  rintro e w8 ⟨vb, rfl, hB8, hb8⟩
  have hw8 := below_next hw7 hb8
  have hA8 := hA7.next hb8
  have hX8 := hX7.next hb8
  clear hO7 hX7 hA7
  go_wp2_with fail
  refine (implCutO s hB8 (hf.del t) (by omega)).mono ?_
  rw [E3.out]
  rintro e w9 ⟨vc, rfl, hC9, hb9⟩
  have hw9 := below_next hw8 hb9
  have hA9 := hA8.next hb9
  have hX9 := hX8.next hb9
  clear hX8 hA8 hB8
  go_wp2_with fail
  refine (implCutO s hX9 hfc (by omega)).mono ?_
  rw [E4.out, E5.out]
  rintro e w10 ⟨vd, rfl, hD10, hb10⟩
  have hw10 := below_next hw9 hb10
  have hA10 := hA9.next hb10
  have hX10 := hX9.next hb10
  have hC10 := hC9.next hb10
  go_wp2_with fail
  refine (wpO hA10 hC10 (by omega) (by omega)).mono ?_
  rintro e w11 ⟨rfl, hb11⟩
  rw [eqL_yes rfl]
  have hw11 := below_next hw10 hb11
  go_wp2_with fail
  refine (wpO (hD10.next hb11) (hX10.next hb11) (by omega) (by omega)).mono ?_
  rintro e w12 ⟨rfl, hb12⟩
  rw [eqL_yes rfl]
  go_wp2
  go_ret
  exact ⟨rfl, below_next hw11 hb12⟩

set_option maxRecDepth 100000 in
theorem lifted (os : Os) (started : os.Started) (H : Type) (enc : TypeId × Value → H) :
    ReturnsInHanded {} Try.checked os 18 .any (Rows.fnRowsCutTwoSpec.pre6 enc Try.prog Try.f18 Rows.fnRowsCutTwoRow.domain false) (Rows.fnRowsCutTwoSpec.post enc Try.prog Try.f18 false true false false) := by
  refine returnsInHanded_of_change (C := Try.checked) Whole.own started (by kernel_rfl) Try.func18
    (ChangeSpec.witness6 (enc := enc) (C := Try.checked) false ⟨#[], #[.slice none 0 0, .slice none 0 0], []⟩ 8 (by kernel_rfl) (by kernel_rfl) (by kernel_rfl) (by kernel_rfl)) ?_
  intro W base args ds gs before hval0 hW hcnd _
  have hval : ∀ (j : Nat) t v, Try.f18.params[j]? = some t → args[j]? = some v → Value.okWide Try.prog W .any base t v := hval0
  have hW' := hW
  obtain ⟨p, q, hA0, hV, rfl, hfz, hnd⟩ := hW
  have hA : DataW.TrodAll enc Try.prog W 0 (fun _ => true) true Try.f18.params.toList args.toList ds p := hA0
  rw [Try.params18] at hA hval
  obtain ⟨v0, vs0, d0, ds0, p0, q0, hargs, rfl, rfl, h0, r0⟩ := trodAll_cons hA
  obtain ⟨v1, vs1, d1, ds1, p1, q1, rfl, rfl, rfl, h1, r1⟩ := trodAll_cons r0
  obtain ⟨rfl, rfl, rfl⟩ := trodAll_nil r1
  obtain rfl : args = #[v0, v1] := by cases args; simp_all
  obtain ⟨rfl, rfl⟩ := trodVars_none hV
  have k0 := h0
  have lt0 : ∀ x ∈ p0, x.block < W.heap.size := by obtain ⟨m, hm⟩ := k0; exact DataW.trod_lt m _ _ _ hm
  obtain ⟨A0, n0, c0, rfl, hc0, hm0, hr0⟩ := openBytes (hval 0 46 v0 rfl rfl) h0
  have k1 := h1
  have lt1 : ∀ x ∈ p1, x.block < W.heap.size := by obtain ⟨m, hm⟩ := k1; exact DataW.trod_lt m _ _ _ hm
  obtain ⟨A1, n1, c1, rfl, hc1, hm1, hr1⟩ := openBytes (hval 1 46 v1 rfl rfl) h1
  clear hA0 hval0
  refine (walk A0 n0 c0 A1 n1 c1 W hc0 hm0 hr0 hc1 hm1 hr1).mono fun e W' ⟨he, bel⟩ => ?_
  subst he
  exact ⟨_, rfl, _, _, _, [], _, [], hW', trodAll_mk1 (shut_bool Try.underlying4 _), (trodAll_cons_mk (Below.trod Whole.laidOut (by kernel_rfl) (of_decide_eq_true (by kernel_rfl)) k0 bel lt0) (trodAll_cons_mk (Below.trod Whole.laidOut (by kernel_rfl) (of_decide_eq_true (by kernel_rfl)) k1 bel lt1) trodAll_mk0)), rfl, bel.frame _, fun h => by cases h⟩

theorem named : Try.prog.funcNamed Rows.fnRowsCutTwoRow.func = some 18 := by kernel_rfl
theorem closed : Whole.lawFacts Try.prog 18 Try.f18 Rows.fnRowsCutTwoSpec Rows.fnRowsCutTwoRow = true := by kernel_rfl
theorem inst : Try.f18.isInstance Try.prog Rows.fnRowsCutTwoRow.origin Rows.fnRowsCutTwoRow.targs := of_decide_eq_true (by kernel_rfl)
theorem wrap : Try.f18.isWrapper Try.prog Rows.fnRowsCutTwoRow.wrapper Rows.fnRowsCutTwoRow.mainSum := by
  unfold Func.isWrapper; first | (rw [if_pos (by decide +kernel)]; kernel_rfl) | (rw [if_neg (by decide +kernel)]; exact ⟨rfl, rfl⟩)
theorem over : Rows.fnRowsCutTwoRow.holds Try.pinned (OpenSpec.ofChange Rows.fnRowsCutTwoSpec) :=
  OpenClaim.holds_of_wide 18 Try.f18 rfl rfl rfl rfl rfl rfl rfl ⟨rfl, rfl, rfl, rfl, rfl⟩ rfl rfl rfl rfl rfl named Try.func18 (Whole.facts_of closed)
    inst wrap (fun os started H enc _ => lifted os started H enc)

theorem proved : Rows.FnRowsCutTwoSaid := over
#print axioms proved
end Go.Proofs.Ytabpepddbkipiaa.fnRowsCutTwo
