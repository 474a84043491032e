/- The law FnExactRowsGet: for every list of rows and every text the program's RowsGet answers as the model's RowsGet and writes into no argument: for every input the call returns true, and the arguments read afterwards as before. No conditions. -/
import Derived.Test.YtabpepddbkipiaaRows
import Derived.Test.YtabpepddbkipiaaWhole
import Derived.Test.YtabpepddbkipiaaArg
import Derived.Test.YtabpepddbkipiaaSz
import Derived.Test.YtabpepddbkipiaaTo
import Derived.Test.YtabpepddbkipiaaEq
import Derived.Test.YtabpepddbkipiaaRok
import Derived.Test.YtabpepddbkipiaaIok
import Derived.Test.YtabpepddbkipiaaFind
import Derived.WalkKit
import Derived.ProofKit
import Derived.OpenShut
import Derived.ShutString
import Derived.ChangeOld
import Derived.Below
namespace Go.Proofs.Ytabpepddbkipiaa.fnExactRowsGet
open Go.ChangeShapes Go.WideShapes Go.ChangeAt Go.RowKit
open Go.ChangeMaps (open_string shut_string)
set_option linter.unusedVariables false

set_option maxRecDepth 100000 in
set_option maxHeartbeats 1000000 in
theorem walk (A0 : Option Addr) (c0 : Nat) (l0 : List R) (s1 : ByteArray) (w : World) (hc0 : l0.length ≤ c0) (hm0 : c0 ≤ maxLen) (hf0 : FitR l0) (hr0 : Rd w w.heap.size A0 l0) (hs1 : s1.size ≤ maxLen) :
    Calls Try.prog 5 #[.slice A0 l0.length c0, .string s1] w fun e w' => e = .returned (.bool true) ∧ Below w.heap.size w w' := by
  by_cases hk : (1048576 : Int) < (s1.size : Int)
  · go_enter Try.func5, Try.ntmps5
    go_wp2
    go_ret
    exact ⟨rfl, Below.refl _ _⟩
  by_cases ht : (total l0 : Int) ≤ 1048576
  · have hlen : l0.length ≤ 1048576 := by have := total_len l0; omega
    have e0 : szR 1048576 (total l0) = 1048576 - total l0 := szR_pos ht
    have H0 := Lib.hid e0
    have hbig : l0.length ≤ maxLen := by omega
    clear e0
    go_enter Try.func5, Try.ntmps5
    go_wp2_with fail
    refine (szRowS_c A0 c0 l0 1048576 w hf0 hc0 hm0 (by omega) (by omega) hr0).mono ?_
    rintro e w1 ⟨rfl, hb1⟩
    rw [H0.out]
    have hr1 := (hr0.below hb1).more hb1.size
    go_wp2_with fail
    refine (toRowS_c A0 c0 l0 w1 hc0 hlen hr1).mono ?_
    rintro e w2 ⟨g, rfl, hg, hblk, hb2⟩
    have hw12 := below_next hb1 hb2
    go_wp2_with fail
    refine (specGet _ _ l0 s1 w2 hf0 (Nat.le_refl _) hbig (by omega) hblk.rd).mono ?_
    rintro e w3 ⟨rfl, nd, rfl⟩
    have hb3 : Below w.heap.size w (w2.drewN nd) := below_drewN hw12 nd
    generalize w2.drewN nd = w3 at hb3 ⊢
    have hr3 := (hr0.below hb3).more hb3.size
    go_wp2_with fail
    refine (toRowS_c A0 c0 l0 w3 hc0 hlen hr3).mono ?_
    rintro e w4 ⟨g2, rfl, hg2, hblk2, hb4⟩
    have hw4 := below_next hb3 hb4
    go_wp2_with fail
    refine (implGet _ _ l0 s1 w4 hf0 (by omega) hblk2.rd).mono ?_
    rintro e w5 ⟨rfl, hb5⟩
    have hw5 := below_next hw4 hb5
    have hblk3 := hblk2.next hb5
    have hr5 := (hr0.below hw5).more hw5.size
    go_wp2_with fail
    refine (toRowS_c A0 c0 l0 w5 hc0 hlen hr5).mono ?_
    rintro e w6 ⟨g3, rfl, hg3, hblk4, hb6⟩
    have hw6 := below_next hw5 hb6
    have hblk5 := hblk3.next hb6
    have HE := Lib.hid (eqL_yes (rfl : l0 = l0))
    go_wp2_with fail
    refine (eqRowS_c _ _ _ _ l0 l0 w6 (by omega) (by omega) hblk5.rd hblk4.rd).mono ?_
    rintro e w7 ⟨rfl, hb7⟩
    rw [HE.out]
    have hw7 := below_next hw6 hb7
    go_wp2
    go_ret
    exact ⟨rfl, hw7⟩
  · have e0 : szR 1048576 (total l0) = -1 := szR_neg (by omega)
    have H0 := Lib.hid e0
    clear e0
    go_enter Try.func5, Try.ntmps5
    go_wp2_with fail
    refine (szRowS_c A0 c0 l0 1048576 w hf0 hc0 hm0 (by omega) (by omega) hr0).mono ?_
    rintro e w1 ⟨rfl, hb1⟩
    rw [H0.out]
    go_wp2
    go_ret
    exact ⟨rfl, hb1⟩

set_option maxRecDepth 100000 in
theorem lifted (os : Os) (started : os.Started) (H : Type) (enc : TypeId × Value → H) :
    ReturnsInHanded {} Try.checked os 5 .any (Rows.fnExactRowsGetSpec.pre6 enc Try.prog Try.f5 Rows.fnExactRowsGetRow.domain false) (Rows.fnExactRowsGetSpec.post enc Try.prog Try.f5 false true false false) := by
  refine returnsInHanded_of_change (C := Try.checked) Whole.own started (by kernel_rfl) Try.func5
    (ChangeSpec.witness6 (enc := enc) (C := Try.checked) false ⟨#[], #[.slice none 0 0, .string ByteArray.empty], []⟩ 8 (by kernel_rfl) (by kernel_rfl) (by kernel_rfl) (by kernel_rfl)) ?_
  intro W base args ds gs before hval0 hW hcnd _
  have hval : ∀ (j : Nat) t v, Try.f5.params[j]? = some t → args[j]? = some v → Value.okWide Try.prog W .any base t v := hval0
  have hW' := hW
  obtain ⟨p, q, hA0, hV, rfl, hfz, hnd⟩ := hW
  have hA : DataW.TrodAll enc Try.prog W 0 (fun _ => true) true Try.f5.params.toList args.toList ds p := hA0
  rw [Try.params5] at hA hval
  obtain ⟨v0, vs0, d0, ds0, p0, q0, hargs, rfl, rfl, h0, r0⟩ := trodAll_cons hA
  obtain ⟨v1, vs1, d1, ds1, p1, q1, rfl, rfl, rfl, h1, r1⟩ := trodAll_cons r0
  obtain ⟨rfl, rfl, rfl⟩ := trodAll_nil r1
  obtain rfl : args = #[v0, v1] := by cases args; simp_all
  obtain ⟨rfl, rfl⟩ := trodVars_none hV
  have k0 := h0
  have lt0 : ∀ x ∈ p0, x.block < W.heap.size := by obtain ⟨m, hm⟩ := k0; exact DataW.trod_lt m _ _ _ hm
  obtain ⟨A0, c0, l0, rfl, hc0, hm0, hf0, hr0⟩ := openRows (hval 0 23 v0 rfl rfl) h0
  obtain ⟨s1, rfl, rfl, rfl, hs1⟩ := open_string Try.underlying9 (hval 1 9 v1 rfl rfl) h1
  clear hA0 hval0
  refine (walk A0 c0 l0 s1 W hc0 hm0 hf0 hr0 hs1).mono fun e W' ⟨he, bel⟩ => ?_
  subst he
  exact ⟨_, rfl, _, _, _, [], _, [], hW', trodAll_mk1 (shut_bool Try.underlying4 _), (trodAll_cons_mk (Below.trod Whole.laidOut (by kernel_rfl) (of_decide_eq_true (by kernel_rfl)) k0 bel lt0) (trodAll_cons_mk (shut_string Try.underlying9 hs1) trodAll_mk0)), rfl, bel.frame _, fun h => by cases h⟩

theorem named : Try.prog.funcNamed Rows.fnExactRowsGetRow.func = some 5 := by kernel_rfl
theorem closed : Whole.lawFacts Try.prog 5 Try.f5 Rows.fnExactRowsGetSpec Rows.fnExactRowsGetRow = true := by kernel_rfl
theorem inst : Try.f5.isInstance Try.prog Rows.fnExactRowsGetRow.origin Rows.fnExactRowsGetRow.targs := of_decide_eq_true (by kernel_rfl)
theorem wrap : Try.f5.isWrapper Try.prog Rows.fnExactRowsGetRow.wrapper Rows.fnExactRowsGetRow.mainSum := by
  unfold Func.isWrapper; first | (rw [if_pos (by decide +kernel)]; kernel_rfl) | (rw [if_neg (by decide +kernel)]; exact ⟨rfl, rfl⟩)
theorem over : Rows.fnExactRowsGetRow.holds Try.pinned (OpenSpec.ofChange Rows.fnExactRowsGetSpec) :=
  OpenClaim.holds_of_wide 5 Try.f5 rfl rfl rfl rfl rfl rfl rfl ⟨rfl, rfl, rfl, rfl, rfl⟩ rfl rfl rfl rfl rfl named Try.func5 (Whole.facts_of closed)
    inst wrap (fun os started H enc _ => lifted os started H enc)

theorem proved : Rows.FnExactRowsGetSaid := over
#print axioms proved
end Go.Proofs.Ytabpepddbkipiaa.fnExactRowsGet
