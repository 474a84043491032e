/- The law FnRowsTurn: for every two codes, of the rows, keys and numbers that they draw: what is put under two unlike keys can be put in either order: for every input the call returns true, and the arguments read afterwards as before. No conditions. -/
import Derived.Test.YtabpepddbkipiaaRows
import Derived.Test.YtabpepddbkipiaaWhole
import Derived.Test.YtabpepddbkipiaaArgB
import Derived.Test.YtabpepddbkipiaaWp
import Derived.Test.YtabpepddbkipiaaDraw4
import Derived.WalkKit
import Derived.ProofKit
import Derived.OpenShut
import Derived.ShutString
import Derived.ChangeOld
import Derived.Below
namespace Go.Proofs.Ytabpepddbkipiaa.fnRowsTurn
open Go.ChangeShapes Go.WideShapes Go.ChangeAt Go.RowKit
open Go.ChangeMaps (open_string shut_string)
set_option linter.unusedVariables false

set_option maxRecDepth 100000 in
set_option maxHeartbeats 1000000 in
theorem walk (A0 : Option Addr) (n0 c0 : Nat) (A1 : Option Addr) (n1 c1 : Nat) (w : World) (hc0 : n0 ≤ c0) (hm0 : c0 ≤ maxLen) (hr0 : RdB w w.heap.size A0 n0) (hc1 : n1 ≤ c1) (hm1 : c1 ≤ maxLen) (hr1 : RdB w w.heap.size A1 n1) :
    Calls Try.prog 16 #[.slice A0 n0 c0, .slice A1 n1 c1] w fun e w' => e = .returned (.bool true) ∧ Below w.heap.size w w' := by
  by_cases hn : (1048576 : Int) < (n0 : Int)
  · go_enter Try.func16, Try.ntmps16
    go_wp2
    go_ret
    exact ⟨rfl, Below.refl _ _⟩
  by_cases hn1 : (1048576 : Int) < (n1 : Int)
  · go_enter Try.func16, Try.ntmps16
    go_wp2
    go_ret
    exact ⟨rfl, Below.refl _ _⟩
  go_enter Try.func16, Try.ntmps16
  go_wp2_with fail
  refine (drawPut A0 n0 c0 w hc0 hm0 hr0).mono ?_
  rintro e w1 ⟨v, l, s, z, rfl, hO1, hf, hl, hk, hb1⟩
  have hr1 : RdB w1 w1.heap.size A1 n1 := hr1.below hb1
  go_wp2_with fail
  refine (drawPut A1 n1 c1 w1 hc1 hm1 hr1).mono ?_
  rintro e w2 ⟨vx, lx, t, y, rfl, _, _, _, hk2, hb2⟩
  have hw2 := below_next hb1 hb2
  have hO2 := hO1.next hb2
  have hlv := putV_length l s z
  have hfp := hf.putV hk
  go_wp2_with fail
  refine (implPutO s z hO2 hf hk (by omega)).mono ?_
  rintro e w3 ⟨v3, rfl, hX3, hb3⟩
  have hw3 := below_next hw2 hb3
  have hO3 := hO2.next hb3
  clear hO1 hO2
  go_wp2_with fail
  refine (specPutO s z hO3 hf hk (by omega)).mono ?_
  rintro e w4 ⟨v4, rfl, _, hb4⟩
  have hw4 := below_next hw3 hb4
  have hO4 := hO3.next hb4
  have hX4 := hX3.next hb4
  clear hO3 hX3
  obtain ⟨Al, cl, evl, _, _, _⟩ := hO4.read
  subst evl
  cases hok : putOk l s z
  · go_wp2
    go_ret
    exact ⟨rfl, hw4⟩
  by_cases hts : t = s
  · subst hts
    go_wp2
    go_ret
    exact ⟨rfl, hw4⟩
  have hne := str_ne hts
  by_cases h8 : (8 : Int) < (l.length : Int)
  · go_wp2
    go_ret
    exact ⟨rfl, hw4⟩
  obtain ⟨hP, hPi⟩ := putOk_rows hok
  have hS := hP.srt
  rw [putV_yes hok] at hX4 hlv hfp
  have hkn : keyB s = true ∧ numB z = true := (rowsP_iff.1 hPi).2.1 _ (ins_self_mem s z l)
  have hl8 : l.length ≤ 8 := by omega
  have hil : (ins s z l).length ≤ 9 := by rw [ins_length]; split <;> omega
  have hpq : putOk (ins s z l) t y = putOk l t y := by
    rw [putOk_eq, putOk_eq, rowsB_yes hPi, rowsB_yes hP, look_ins t hS, if_neg hts]
    rw [decide_eq_true (show (ins s z l).length < 10 by omega), decide_eq_true (show l.length < 10 by omega)]
  have HPQ := Lib.hid hpq
  clear hpq
  go_wp2_with fail
  refine (implPutO t y hX4 hfp hk2 (by omega)).mono ?_
  rw [HPQ.out]
  rintro e w5 ⟨v5, rfl, hA5, hb5⟩
  have hw5 := below_next hw4 hb5
  have hO5 := hO4.next hb5
  go_wp2_with fail
  refine (implPutO t y hO5 hf hk2 (by omega)).mono ?_
  rintro e w6 ⟨v6, rfl, hB6, hb6⟩
  have hw6 := below_next hw5 hb6
  have hA6 := hA5.next hb6
  clear hO5 hO4 hX4 hA5
  cases hq : putOk l t y
  · go_wp2
    go_ret
    exact ⟨rfl, hw6⟩
  have hq2 := HPQ.out.trans hq
  rw [putV_yes hq] at hB6
  rw [putV_yes hq2] at hA6
  obtain ⟨_, hPt⟩ := putOk_rows hq
  have htl : (ins t y l).length ≤ 9 := by rw [ins_length]; split <;> omega
  have hok3 : putOk (ins t y l) s z = true := by
    rw [putOk_eq, rowsB_yes hPt, hkn.1, hkn.2, decide_eq_true (show (ins t y l).length < 10 by omega)]
    simp
  have hV3 : putV (ins t y l) s z = ins t y (ins s z l) := by rw [putV_yes hok3, ins_comm hS hts]
  have h3l : (ins t y (ins s z l)).length ≤ 11 := by rw [ins_length]; split <;> omega
  have HOK := Lib.hid hok3
  have HV := Lib.hid hV3
  clear hok3 hV3 hq2
  go_wp2_with fail
  refine (implPutO s z hB6 (hf.ins hk2) hk (by omega)).mono ?_
  rw [HOK.out, HV.out]
  rintro e w7 ⟨v7, rfl, hC7, hb7⟩
  have hw7 := below_next hw6 hb7
  go_wp2_with fail
  refine (wpO (hA6.next hb7) hC7 (by omega) (by omega)).mono ?_
  rintro e w8 ⟨rfl, hb8⟩
  rw [eqL_yes rfl]
  go_wp2
  go_ret
  exact ⟨rfl, below_next hw7 hb8⟩

set_option maxRecDepth 100000 in
theorem lifted (os : Os) (started : os.Started) (H : Type) (enc : TypeId × Value → H) :
    ReturnsInHanded {} Try.checked os 16 .any (Rows.fnRowsTurnSpec.pre6 enc Try.prog Try.f16 Rows.fnRowsTurnRow.domain false) (Rows.fnRowsTurnSpec.post enc Try.prog Try.f16 false true false false) := by
  refine returnsInHanded_of_change (C := Try.checked) Whole.own started (by kernel_rfl) Try.func16
    (ChangeSpec.witness6 (enc := enc) (C := Try.checked) false ⟨#[], #[.slice none 0 0, .slice none 0 0], []⟩ 8 (by kernel_rfl) (by kernel_rfl) (by kernel_rfl) (by kernel_rfl)) ?_
  intro W base args ds gs before hval0 hW hcnd _
  have hval : ∀ (j : Nat) t v, Try.f16.params[j]? = some t → args[j]? = some v → Value.okWide Try.prog W .any base t v := hval0
  have hW' := hW
  obtain ⟨p, q, hA0, hV, rfl, hfz, hnd⟩ := hW
  have hA : DataW.TrodAll enc Try.prog W 0 (fun _ => true) true Try.f16.params.toList args.toList ds p := hA0
  rw [Try.params16] at hA hval
  obtain ⟨v0, vs0, d0, ds0, p0, q0, hargs, rfl, rfl, h0, r0⟩ := trodAll_cons hA
  obtain ⟨v1, vs1, d1, ds1, p1, q1, rfl, rfl, rfl, h1, r1⟩ := trodAll_cons r0
  obtain ⟨rfl, rfl, rfl⟩ := trodAll_nil r1
  obtain rfl : args = #[v0, v1] := by cases args; simp_all
  obtain ⟨rfl, rfl⟩ := trodVars_none hV
  have k0 := h0
  have lt0 : ∀ x ∈ p0, x.block < W.heap.size := by obtain ⟨m, hm⟩ := k0; exact DataW.trod_lt m _ _ _ hm
  obtain ⟨A0, n0, c0, rfl, hc0, hm0, hr0⟩ := openBytes (hval 0 46 v0 rfl rfl) h0
  have k1 := h1
  have lt1 : ∀ x ∈ p1, x.block < W.heap.size := by obtain ⟨m, hm⟩ := k1; exact DataW.trod_lt m _ _ _ hm
  obtain ⟨A1, n1, c1, rfl, hc1, hm1, hr1⟩ := openBytes (hval 1 46 v1 rfl rfl) h1
  clear hA0 hval0
  refine (walk A0 n0 c0 A1 n1 c1 W hc0 hm0 hr0 hc1 hm1 hr1).mono fun e W' ⟨he, bel⟩ => ?_
  subst he
  exact ⟨_, rfl, _, _, _, [], _, [], hW', trodAll_mk1 (shut_bool Try.underlying4 _), (trodAll_cons_mk (Below.trod Whole.laidOut (by kernel_rfl) (of_decide_eq_true (by kernel_rfl)) k0 bel lt0) (trodAll_cons_mk (Below.trod Whole.laidOut (by kernel_rfl) (of_decide_eq_true (by kernel_rfl)) k1 bel lt1) trodAll_mk0)), rfl, bel.frame _, fun h => by cases h⟩

theorem named : Try.prog.funcNamed Rows.fnRowsTurnRow.func = some 16 := by kernel_rfl
theorem closed : Whole.lawFacts Try.prog 16 Try.f16 Rows.fnRowsTurnSpec Rows.fnRowsTurnRow = true := by kernel_rfl
theorem inst : Try.f16.isInstance Try.prog Rows.fnRowsTurnRow.origin Rows.fnRowsTurnRow.targs := of_decide_eq_true (by kernel_rfl)
theorem wrap : Try.f16.isWrapper Try.prog Rows.fnRowsTurnRow.wrapper Rows.fnRowsTurnRow.mainSum := by
  unfold Func.isWrapper; first | (rw [if_pos (by decide +kernel)]; kernel_rfl) | (rw [if_neg (by decide +kernel)]; exact ⟨rfl, rfl⟩)
theorem over : Rows.fnRowsTurnRow.holds Try.pinned (OpenSpec.ofChange Rows.fnRowsTurnSpec) :=
  OpenClaim.holds_of_wide 16 Try.f16 rfl rfl rfl rfl rfl rfl rfl ⟨rfl, rfl, rfl, rfl, rfl⟩ rfl rfl rfl rfl rfl named Try.func16 (Whole.facts_of closed)
    inst wrap (fun os started H enc _ => lifted os started H enc)

theorem proved : Rows.FnRowsTurnSaid := over
#print axioms proved
end Go.Proofs.Ytabpepddbkipiaa.fnRowsTurn
