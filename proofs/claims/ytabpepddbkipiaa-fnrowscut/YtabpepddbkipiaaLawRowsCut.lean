/- The law FnRowsCut: for every code, of the rows and the key that it draws: a key that is taken away is not there, and put in again with what it had all is as it was: for every input the call returns true, and the argument reads afterwards as before. No conditions. -/
import Derived.Test.YtabpepddbkipiaaRows
import Derived.Test.YtabpepddbkipiaaWhole
import Derived.Test.YtabpepddbkipiaaArgB
import Derived.Test.YtabpepddbkipiaaWp
import Derived.Test.YtabpepddbkipiaaDraw4
import Derived.WalkKit
import Derived.ProofKit
import Derived.OpenShut
import Derived.ShutString
import Derived.ChangeOld
import Derived.Below
namespace Go.Proofs.Ytabpepddbkipiaa.fnRowsCut
open Go.ChangeShapes Go.WideShapes Go.ChangeAt Go.RowKit
open Go.ChangeMaps (open_string shut_string)
set_option linter.unusedVariables false

set_option maxRecDepth 100000 in
set_option maxHeartbeats 1000000 in
theorem walk (A0 : Option Addr) (n0 c0 : Nat) (w : World) (hc0 : n0 ≤ c0) (hm0 : c0 ≤ maxLen) (hr0 : RdB w w.heap.size A0 n0) :
    Calls Try.prog 12 #[.slice A0 n0 c0] w fun e w' => e = .returned (.bool true) ∧ Below w.heap.size w w' := by
  by_cases hn : (1048576 : Int) < (n0 : Int)
  · go_enter Try.func12, Try.ntmps12
    go_wp2
    go_ret
    exact ⟨rfl, Below.refl _ _⟩
  go_enter Try.func12, Try.ntmps12
  go_wp2_with fail
  refine (drawCut A0 n0 c0 w hc0 hm0 hr0).mono ?_
  rintro e w1 ⟨v, l, s, rfl, hO1, hf, hl, hsz, hb1⟩
  have hclen := cutV_length l s
  have hfc := hf.cutV s
  have HG := Lib.hid (getB_eq l s)
  have HC := Lib.hid (cutOk_eq l s)
  go_wp2_with fail
  refine (implCutO s hO1 hf (by omega)).mono ?_
  rintro e w2 ⟨v2, rfl, hX2, hb2⟩
  have hw2 := below_next hb1 hb2
  have hO2 := hO1.next hb2
  go_wp2_with fail
  refine (specCutO s hO2 hf (by omega)).mono ?_
  rintro e w3 ⟨v3, rfl, hY3, hb3⟩
  have hw3 := below_next hw2 hb3
  have hO3 := hO2.next hb3
  have hX3 := hX2.next hb3
  clear hO1 hO2 hX2
  go_wp2_with fail
  refine (wpO hX3 hY3 (by omega) (by omega)).mono ?_
  rintro e w4 ⟨rfl, hb4⟩
  rw [eqL_yes rfl]
  have hw4 := below_next hw3 hb4
  have hO4 := hO3.next hb4
  have hX4 := hX3.next hb4
  clear hO3 hX3 hY3
  go_wp2_with fail
  refine (implGetO s hO4 hf (by omega)).mono ?_
  rintro e w5 ⟨rfl, hb5⟩
  have hw5 := below_next hw4 hb5
  have hO5 := hO4.next hb5
  have hX5 := hX4.next hb5
  clear hO4 hX4
  rw [HG.out, HC.out]
  cases hok : rowsB l
  · simp only [Bool.false_and]
    go_wp2_with fail
    refine (specOkO hO5 hf).mono ?_
    rintro e w6 ⟨rfl, hb6⟩
    rw [hok]
    go_wp2
    go_ret
    exact ⟨rfl, below_next hw5 hb6⟩
  have hP := rowsB_iff.1 hok
  have hS := hP.srt
  have HGN := Lib.hid (getN_eq l s hok)
  have HV := Lib.hid (cutV_eq s hok)
  rw [HGN.out]
  rw [HV.out] at hX5
  cases hlk : look s l with
  | none =>
    rw [del_none hS hlk] at hX5
    simp only [Bool.true_and, Option.isSome_none, Option.getD_none]
    go_wp2_with fail
    refine (specOkO hO5 hf).mono ?_
    rintro e w6 ⟨rfl, hb6⟩
    rw [hok]
    have hw6 := below_next hw5 hb6
    go_wp2_with fail
    refine (wpO (hX5.next hb6) (hO5.next hb6) (by omega) (by omega)).mono ?_
    rintro e w7 ⟨rfl, hb7⟩
    rw [eqL_yes rfl]
    go_wp2
    go_ret
    exact ⟨rfl, below_next hw6 hb7⟩
  | some z =>
    simp only [Bool.true_and, Option.isSome_some, Option.getD_some]
    have hdl := del_length s l
    rw [hlk] at hdl
    simp only [Option.isSome_some, if_true] at hdl
    have hPd := del_ok hP s
    have hfd := hf.del s
    have hmem := look_mem hlk
    have hfz : FitR [(s, z)] := fun r hr => by
      have : r = (s, z) := by simpa using hr
      subst this
      exact hf _ hmem
    have hpos : 0 < l.length := List.length_pos_of_mem hmem
    have hkn := (rowsP_iff.1 hP).2.1 _ hmem
    have hlkd : look s (del s l) = none := look_del_self hS
    have HG2 := Lib.hid (show getB (del s l) s = false from by rw [getB_eq, hlkd]; simp)
    have HP2 := Lib.hid (show putOk (del s l) s z = true from by
      have hlen10 := hP.len
      rw [putOk_eq, rowsB_yes hPd, hkn.1, hkn.2, hlkd]
      simp
      omega)
    have HV2 := Lib.hid (show putV (del s l) s z = l from by rw [putV_yes HP2.out, ins_del hS hlk])
    have hdl2 : (del s l).length ≤ 1048576 := by omega
    go_wp2_with fail
    refine (implGetO s hX5 hfd hdl2).mono ?_
    rintro e w6 ⟨rfl, hb6⟩
    rw [HG2.out]
    have hw6 := below_next hw5 hb6
    have hX6 := hX5.next hb6
    have hO6 := hO5.next hb6
    go_wp2_with fail
    refine (implPutO s z hX6 hfd hfz hdl2).mono ?_
    rw [HP2.out, HV2.out]
    rintro e w7 ⟨v7, rfl, hB7, hb7⟩
    have hw7 := below_next hw6 hb7
    have hO7 := hO6.next hb7
    have hX7 := hX6.next hb7
    obtain ⟨Ax, cx, evx, _, _, _⟩ := hX7.read
    obtain ⟨Al, cl, evl, _, _, _⟩ := hO7.read
    subst evx evl
    have HDL := Lib.hid hdl
    clear hdl
    go_wp2_with fail
    refine (wpO hB7 hO7 (by omega) (by omega)).mono ?_
    rintro e w8 ⟨rfl, hb8⟩
    rw [eqL_yes rfl]
    have hq : (((del s l).length : Int) == (l.length : Int) - 1) = true := by rw [HDL.out]; exact beq_iff_eq.2 (by omega)
    go_wp2
    go_ret
    exact ⟨rfl, below_next hw7 hb8⟩

set_option maxRecDepth 100000 in
theorem lifted (os : Os) (started : os.Started) (H : Type) (enc : TypeId × Value → H) :
    ReturnsInHanded {} Try.checked os 12 .any (Rows.fnRowsCutSpec.pre6 enc Try.prog Try.f12 Rows.fnRowsCutRow.domain false) (Rows.fnRowsCutSpec.post enc Try.prog Try.f12 false true false false) := by
  refine returnsInHanded_of_change (C := Try.checked) Whole.own started (by kernel_rfl) Try.func12
    (ChangeSpec.witness6 (enc := enc) (C := Try.checked) false ⟨#[], #[.slice none 0 0], []⟩ 8 (by kernel_rfl) (by kernel_rfl) (by kernel_rfl) (by kernel_rfl)) ?_
  intro W base args ds gs before hval0 hW hcnd _
  have hval : ∀ (j : Nat) t v, Try.f12.params[j]? = some t → args[j]? = some v → Value.okWide Try.prog W .any base t v := hval0
  have hW' := hW
  obtain ⟨p, q, hA0, hV, rfl, hfz, hnd⟩ := hW
  have hA : DataW.TrodAll enc Try.prog W 0 (fun _ => true) true Try.f12.params.toList args.toList ds p := hA0
  rw [Try.params12] at hA hval
  obtain ⟨v0, vs0, d0, ds0, p0, q0, hargs, rfl, rfl, h0, r0⟩ := trodAll_cons hA
  obtain ⟨rfl, rfl, rfl⟩ := trodAll_nil r0
  obtain rfl : args = #[v0] := by cases args; simp_all
  obtain ⟨rfl, rfl⟩ := trodVars_none hV
  have k0 := h0
  have lt0 : ∀ x ∈ p0, x.block < W.heap.size := by obtain ⟨m, hm⟩ := k0; exact DataW.trod_lt m _ _ _ hm
  obtain ⟨A0, n0, c0, rfl, hc0, hm0, hr0⟩ := openBytes (hval 0 46 v0 rfl rfl) h0
  clear hA0 hval0
  refine (walk A0 n0 c0 W hc0 hm0 hr0).mono fun e W' ⟨he, bel⟩ => ?_
  subst he
  exact ⟨_, rfl, _, _, _, [], _, [], hW', trodAll_mk1 (shut_bool Try.underlying4 _), (trodAll_cons_mk (Below.trod Whole.laidOut (by kernel_rfl) (of_decide_eq_true (by kernel_rfl)) k0 bel lt0) trodAll_mk0), rfl, bel.frame _, fun h => by cases h⟩

theorem named : Try.prog.funcNamed Rows.fnRowsCutRow.func = some 12 := by kernel_rfl
theorem closed : Whole.lawFacts Try.prog 12 Try.f12 Rows.fnRowsCutSpec Rows.fnRowsCutRow = true := by kernel_rfl
theorem inst : Try.f12.isInstance Try.prog Rows.fnRowsCutRow.origin Rows.fnRowsCutRow.targs := of_decide_eq_true (by kernel_rfl)
theorem wrap : Try.f12.isWrapper Try.prog Rows.fnRowsCutRow.wrapper Rows.fnRowsCutRow.mainSum := by
  unfold Func.isWrapper; first | (rw [if_pos (by decide +kernel)]; kernel_rfl) | (rw [if_neg (by decide +kernel)]; exact ⟨rfl, rfl⟩)
theorem over : Rows.fnRowsCutRow.holds Try.pinned (OpenSpec.ofChange Rows.fnRowsCutSpec) :=
  OpenClaim.holds_of_wide 12 Try.f12 rfl rfl rfl rfl rfl rfl rfl ⟨rfl, rfl, rfl, rfl, rfl⟩ rfl rfl rfl rfl rfl named Try.func12 (Whole.facts_of closed)
    inst wrap (fun os started H enc _ => lifted os started H enc)

theorem proved : Rows.FnRowsCutSaid := over
#print axioms proved
end Go.Proofs.Ytabpepddbkipiaa.fnRowsCut
