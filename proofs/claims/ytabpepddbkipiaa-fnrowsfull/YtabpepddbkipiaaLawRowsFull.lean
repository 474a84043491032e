/- The law FnRowsFull: for every code, what it draws is put just if the key is there or there is room: for every input the call returns true, and the argument reads afterwards as before. No conditions. -/
import Derived.Test.YtabpepddbkipiaaRows
import Derived.Test.YtabpepddbkipiaaWhole
import Derived.Test.YtabpepddbkipiaaArgB
import Derived.Test.YtabpepddbkipiaaWp
import Derived.Test.YtabpepddbkipiaaDraw4
import Derived.WalkKit
import Derived.ProofKit
import Derived.OpenShut
import Derived.ShutString
import Derived.ChangeOld
import Derived.Below
namespace Go.Proofs.Ytabpepddbkipiaa.fnRowsFull
open Go.ChangeShapes Go.WideShapes Go.ChangeAt Go.RowKit
open Go.ChangeMaps (open_string shut_string)
set_option linter.unusedVariables false

set_option maxRecDepth 100000 in
set_option maxHeartbeats 1000000 in
theorem walk (A0 : Option Addr) (n0 c0 : Nat) (w : World) (hc0 : n0 ≤ c0) (hm0 : c0 ≤ maxLen) (hr0 : RdB w w.heap.size A0 n0) :
    Calls Try.prog 19 #[.slice A0 n0 c0] w fun e w' => e = .returned (.bool true) ∧ Below w.heap.size w w' := by
  by_cases hn : (1048576 : Int) < (n0 : Int)
  · go_enter Try.func19, Try.ntmps19
    go_wp2
    go_ret
    exact ⟨rfl, Below.refl _ _⟩
  go_enter Try.func19, Try.ntmps19
  go_wp2_with fail
  refine (drawPut A0 n0 c0 w hc0 hm0 hr0).mono ?_
  rintro e w1 ⟨v, l, s, z, rfl, hO1, hf, hl, hk, hb1⟩
  have hp := putOk_eq l s z
  have hg := getB_eq l s
  have hsz := (hk (s, z) (by simp)).1
  have HP := Lib.hid hp
  have HG := Lib.hid hg
  clear hp hg
  go_wp2_with fail
  refine (implPutO s z hO1 hf hk (by omega)).mono ?_
  rintro e w2 ⟨v2, rfl, _, hb2⟩
  have hw2 := below_next hb1 hb2
  have hO2 := hO1.next hb2
  go_wp2_with fail
  refine (specPutO s z hO2 hf hk (by omega)).mono ?_
  rintro e w3 ⟨v3, rfl, _, hb3⟩
  have hw3 := below_next hw2 hb3
  have hO3 := hO2.next hb3
  clear hO1 hO2
  cases hok : rowsB l
  · go_wp2_with fail
    refine (specOkO hO3 hf).mono ?_
    rintro e w4 ⟨rfl, hb4⟩
    rw [hok]
    go_wp2
    go_ret
    exact ⟨rfl, below_next hw3 hb4⟩
  cases hkey : keyB s
  · go_wp2_with fail
    refine (specOkO hO3 hf).mono ?_
    rintro e w4 ⟨rfl, hb4⟩
    rw [hok]
    go_wp2_with fail
    refine (specKey s _ hsz).mono ?_
    rintro e w5 ⟨rfl, rfl⟩
    rw [hkey]
    go_wp2
    go_ret
    exact ⟨rfl, below_next hw3 hb4⟩
  by_cases hz1 : z < -999
  · go_wp2_with fail
    refine (specOkO hO3 hf).mono ?_
    rintro e w4 ⟨rfl, hb4⟩
    rw [hok]
    go_wp2_with fail
    refine (specKey s _ hsz).mono ?_
    rintro e w5 ⟨rfl, rfl⟩
    rw [hkey]
    go_wp2
    go_ret
    exact ⟨rfl, below_next hw3 hb4⟩
  by_cases hz2 : 999 < z
  · go_wp2_with fail
    refine (specOkO hO3 hf).mono ?_
    rintro e w4 ⟨rfl, hb4⟩
    rw [hok]
    go_wp2_with fail
    refine (specKey s _ hsz).mono ?_
    rintro e w5 ⟨rfl, rfl⟩
    rw [hkey]
    go_wp2
    go_ret
    exact ⟨rfl, below_next hw3 hb4⟩
  have hnum : numB z = true := by unfold numB; simp; omega
  have hlv := hO3.lenV
  obtain ⟨A3, c3, ev, hc3, hm3, hr3⟩ := hO3.read
  subst ev
  cases hhas : (look s l).isSome
  · have HG0 := Lib.hid (show getB l s = false from by rw [HG.out, hok, hhas]; rfl)
    have HP0 := Lib.hid (show putOk l s z = decide (l.length < 10) from by rw [HP.out, hok, hkey, hnum, hhas]; simp)
    go_wp2_with fail
    refine (specOkO hO3 hf).mono ?_
    rintro e w4 ⟨rfl, hb4⟩
    rw [hok]
    have hw4 := below_next hw3 hb4
    have hO4 := hO3.next hb4
    go_wp2_with fail
    refine (specKey s _ hsz).mono ?_
    rintro e w5 ⟨rfl, rfl⟩
    rw [hkey]
    go_wp2_with fail
    refine (implGetO s hO4 hf (by omega)).mono ?_
    rintro e w6 ⟨rfl, hb6⟩
    rw [HG0.out]
    go_wp2
    go_ret
    refine ⟨?_, below_next hw4 hb6⟩
    rw [HP0.out]
    simp
    omega
  · have HG0 := Lib.hid (show getB l s = true from by rw [HG.out, hok, hhas]; rfl)
    have HP0 := Lib.hid (show putOk l s z = true from by rw [HP.out, hok, hkey, hnum, hhas]; simp)
    go_wp2_with fail
    refine (specOkO hO3 hf).mono ?_
    rintro e w4 ⟨rfl, hb4⟩
    rw [hok]
    have hw4 := below_next hw3 hb4
    have hO4 := hO3.next hb4
    go_wp2_with fail
    refine (specKey s _ hsz).mono ?_
    rintro e w5 ⟨rfl, rfl⟩
    rw [hkey]
    go_wp2_with fail
    refine (implGetO s hO4 hf (by omega)).mono ?_
    rintro e w6 ⟨rfl, hb6⟩
    rw [HG0.out]
    go_wp2
    go_ret
    refine ⟨?_, below_next hw4 hb6⟩
    rw [HP0.out]
    simp

set_option maxRecDepth 100000 in
theorem lifted (os : Os) (started : os.Started) (H : Type) (enc : TypeId × Value → H) :
    ReturnsInHanded {} Try.checked os 19 .any (Rows.fnRowsFullSpec.pre6 enc Try.prog Try.f19 Rows.fnRowsFullRow.domain false) (Rows.fnRowsFullSpec.post enc Try.prog Try.f19 false true false false) := by
  refine returnsInHanded_of_change (C := Try.checked) Whole.own started (by kernel_rfl) Try.func19
    (ChangeSpec.witness6 (enc := enc) (C := Try.checked) false ⟨#[], #[.slice none 0 0], []⟩ 8 (by kernel_rfl) (by kernel_rfl) (by kernel_rfl) (by kernel_rfl)) ?_
  intro W base args ds gs before hval0 hW hcnd _
  have hval : ∀ (j : Nat) t v, Try.f19.params[j]? = some t → args[j]? = some v → Value.okWide Try.prog W .any base t v := hval0
  have hW' := hW
  obtain ⟨p, q, hA0, hV, rfl, hfz, hnd⟩ := hW
  have hA : DataW.TrodAll enc Try.prog W 0 (fun _ => true) true Try.f19.params.toList args.toList ds p := hA0
  rw [Try.params19] at hA hval
  obtain ⟨v0, vs0, d0, ds0, p0, q0, hargs, rfl, rfl, h0, r0⟩ := trodAll_cons hA
  obtain ⟨rfl, rfl, rfl⟩ := trodAll_nil r0
  obtain rfl : args = #[v0] := by cases args; simp_all
  obtain ⟨rfl, rfl⟩ := trodVars_none hV
  have k0 := h0
  have lt0 : ∀ x ∈ p0, x.block < W.heap.size := by obtain ⟨m, hm⟩ := k0; exact DataW.trod_lt m _ _ _ hm
  obtain ⟨A0, n0, c0, rfl, hc0, hm0, hr0⟩ := openBytes (hval 0 46 v0 rfl rfl) h0
  clear hA0 hval0
  refine (walk A0 n0 c0 W hc0 hm0 hr0).mono fun e W' ⟨he, bel⟩ => ?_
  subst he
  exact ⟨_, rfl, _, _, _, [], _, [], hW', trodAll_mk1 (shut_bool Try.underlying4 _), (trodAll_cons_mk (Below.trod Whole.laidOut (by kernel_rfl) (of_decide_eq_true (by kernel_rfl)) k0 bel lt0) trodAll_mk0), rfl, bel.frame _, fun h => by cases h⟩

theorem named : Try.prog.funcNamed Rows.fnRowsFullRow.func = some 19 := by kernel_rfl
theorem closed : Whole.lawFacts Try.prog 19 Try.f19 Rows.fnRowsFullSpec Rows.fnRowsFullRow = true := by kernel_rfl
theorem inst : Try.f19.isInstance Try.prog Rows.fnRowsFullRow.origin Rows.fnRowsFullRow.targs := of_decide_eq_true (by kernel_rfl)
theorem wrap : Try.f19.isWrapper Try.prog Rows.fnRowsFullRow.wrapper Rows.fnRowsFullRow.mainSum := by
  unfold Func.isWrapper; first | (rw [if_pos (by decide +kernel)]; kernel_rfl) | (rw [if_neg (by decide +kernel)]; exact ⟨rfl, rfl⟩)
theorem over : Rows.fnRowsFullRow.holds Try.pinned (OpenSpec.ofChange Rows.fnRowsFullSpec) :=
  OpenClaim.holds_of_wide 19 Try.f19 rfl rfl rfl rfl rfl rfl rfl ⟨rfl, rfl, rfl, rfl, rfl⟩ rfl rfl rfl rfl rfl named Try.func19 (Whole.facts_of closed)
    inst wrap (fun os started H enc _ => lifted os started H enc)

theorem proved : Rows.FnRowsFullSaid := over
#print axioms proved
end Go.Proofs.Ytabpepddbkipiaa.fnRowsFull
