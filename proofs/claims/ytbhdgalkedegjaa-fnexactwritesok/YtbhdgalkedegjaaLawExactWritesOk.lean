/- The law FnExactWritesOk: for every list of writes the program's WritesOk answers as the model's WritesOk and writes into no argument: for every input the call returns true, and the argument reads afterwards as before. No conditions. -/
import Derived.Test.YtbhdgalkedegjaaRows
import Derived.Test.YtbhdgalkedegjaaWhole
import Derived.Test.YtbhdgalkedegjaaArWrite
import Derived.Test.YtbhdgalkedegjaaS2w
import Derived.WalkKit
import Derived.ProofKit
import Derived.OpenShut
import Derived.ShutString
import Derived.ChangeOld
import Derived.Below
namespace Go.Proofs.Ytbhdgalkedegjaa.fnExactWritesOk
open Go.ChangeShapes Go.WideShapes Go.ChangeAt Go.RowKit
open Go.ChangeMaps (open_string shut_string)
set_option linter.unusedVariables false

set_option maxRecDepth 100000 in
set_option maxHeartbeats 1000000 in
theorem walk (A0 : Option Addr) (c0 : Nat) (l0 : List X) (w : World) (hc0 : l0.length ≤ c0) (hm0 : c0 ≤ maxLen) (hf0 : FitXs l0) (hr0 : RdG w w.heap.size A0 l0) :
    Calls Try.prog 6 #[.slice A0 l0.length c0] w fun e w' => e = .returned (.bool true) ∧ Below w.heap.size w w' := by
  have htl0 := totalX_len l0
  by_cases ht0 : (totalX l0 : Int) ≤ 1048576
  rotate_left
  · have H0 := Lib.hid (szR_neg (left := 1048576) (k := totalX l0) (by omega))
    go_enter Try.func6, Try.ntmps6
    go_wp2_with fail
    refine (szWriteS_c A0 c0 l0 1048576 w hf0 hc0 hm0 (by omega) (by omega) hr0).mono ?_
    rintro e w1 ⟨rfl, hb1⟩
    rw [H0.out]
    have hw1 := hb1
    go_wp2
    go_ret
    exact ⟨rfl, hw1⟩
  obtain ⟨L0, H0, hL0, hL0x⟩ : ∃ L : Int, Hid (szR 1048576 (totalX l0) = L) ∧ 0 ≤ L ∧ L ≤ 1048576 := ⟨_, Lib.hid rfl, by rw [szR_pos ht0]; omega, by rw [szR_pos ht0]; omega⟩
  have hlen0 : l0.length ≤ 1048576 := by omega
  clear ht0 htl0
  obtain ⟨vb0, HV0⟩ : ∃ x, Hid (writesB l0 = x) := ⟨_, Lib.hid rfl⟩
  have HA0 := Lib.hid (eqXs_yes (rfl : l0 = l0))
  go_enter Try.func6, Try.ntmps6
  go_wp2_with fail
  refine (szWriteS_c A0 c0 l0 1048576 w hf0 hc0 hm0 (by omega) (by omega) hr0).mono ?_
  rintro e w1 ⟨rfl, hb1⟩
  rw [H0.out]
  have hw1 := hb1
  go_wp2_with fail
  refine (toWriteOwn_c A0 c0 l0 w1 hc0 hlen0 ((hr0.below hw1).more hw1.size)).mono ?_
  rintro e w2 ⟨gY0, rfl, Y0_2, ge_Y00, lt_Y00, hb2⟩
  have ge_Y0 : ∀ g, (Value.slice (some ⟨gY0, 0, none⟩) l0.length l0.length).ownBlock = some g → w1.heap.size ≤ g := fun g hg => by have : gY0 = g := Option.some.inj hg; omega
  have lt_Y0 : ∀ g, (Value.slice (some ⟨gY0, 0, none⟩) l0.length l0.length).ownBlock = some g → g < w2.heap.size := fun g hg => by have : gY0 = g := Option.some.inj hg; omega
  clear ge_Y00 lt_Y00
  have hw2 := below_next hw1 hb2
  have hs2 := hb2.size
  go_wp2_with fail
  refine (specWritesOkO Y0_2 hf0).mono ?_
  rw [HV0.out]
  rintro e w3 ⟨rfl, hb3⟩
  have hw3 := below_next hw2 hb3
  have hs3 := hb3.size
  have Y0_3 := Y0_2.next hb3
  clear Y0_2
  clear Y0_3
  go_wp2_with fail
  refine (toWriteOwn_c A0 c0 l0 w3 hc0 hlen0 ((hr0.below hw3).more hw3.size)).mono ?_
  rintro e w4 ⟨gX0, rfl, X0_4, ge_X00, lt_X00, hb4⟩
  have ge_X0 : ∀ g, (Value.slice (some ⟨gX0, 0, none⟩) l0.length l0.length).ownBlock = some g → w3.heap.size ≤ g := fun g hg => by have : gX0 = g := Option.some.inj hg; omega
  have lt_X0 : ∀ g, (Value.slice (some ⟨gX0, 0, none⟩) l0.length l0.length).ownBlock = some g → g < w4.heap.size := fun g hg => by have : gX0 = g := Option.some.inj hg; omega
  clear ge_X00 lt_X00
  have hw4 := below_next hw3 hb4
  have hs4 := hb4.size
  go_wp2_with fail
  refine (implWritesOkO X0_4 hf0 hlen0).mono ?_
  rw [HV0.out]
  rintro e w5 ⟨rfl, hb5⟩
  have hw5 := below_next hw4 hb5
  have hs5 := hb5.size
  have X0_5 := X0_4.next hb5
  clear X0_4
  go_wp2_with fail
  refine (toWriteOwn_c A0 c0 l0 w5 hc0 hlen0 ((hr0.below hw5).more hw5.size)).mono ?_
  rintro e w6 ⟨gZ0, rfl, Z0_6, ge_Z00, lt_Z00, hb6⟩
  have ge_Z0 : ∀ g, (Value.slice (some ⟨gZ0, 0, none⟩) l0.length l0.length).ownBlock = some g → w5.heap.size ≤ g := fun g hg => by have : gZ0 = g := Option.some.inj hg; omega
  have lt_Z0 : ∀ g, (Value.slice (some ⟨gZ0, 0, none⟩) l0.length l0.length).ownBlock = some g → g < w6.heap.size := fun g hg => by have : gZ0 = g := Option.some.inj hg; omega
  clear ge_Z00 lt_Z00
  have hw6 := below_next hw5 hb6
  have hs6 := hb6.size
  have X0_6 := X0_5.next hb6
  clear X0_5
  go_wp2_with fail
  refine (eqWriteOwn_c _ _ l0 l0 _ _ w6 X0_6 Z0_6 (by omega) (by omega)).mono ?_
  rintro e w7 ⟨rfl, hb7⟩
  rw [HA0.out]
  have hw7 := below_next hw6 hb7
  have hs7 := hb7.size
  have X0_7 := X0_6.next hb7
  clear X0_6
  have Z0_7 := Z0_6.next hb7
  clear Z0_6
  clear Z0_7
  go_wp2
  go_ret
  exact ⟨rfl, hw7⟩

set_option maxRecDepth 100000 in
theorem lifted (os : Os) (started : os.Started) (H : Type) (enc : TypeId × Value → H) :
    ReturnsInHanded {} Try.checked os 6 .any (Rows.fnExactWritesOkSpec.pre6 enc Try.prog Try.f6 Rows.fnExactWritesOkRow.domain false) (Rows.fnExactWritesOkSpec.post enc Try.prog Try.f6 false true false false) := by
  refine returnsInHanded_of_change (C := Try.checked) Whole.own started (by kernel_rfl) Try.func6
    (ChangeSpec.witness6 (enc := enc) (C := Try.checked) false ⟨#[], #[.slice none 0 0], []⟩ 8 (by kernel_rfl) (by kernel_rfl) (by kernel_rfl) (by kernel_rfl)) ?_
  intro W base args ds gs before hval0 hW hcnd _
  have hval : ∀ (j : Nat) t v, Try.f6.params[j]? = some t → args[j]? = some v → Value.okWide Try.prog W .any base t v := hval0
  have hW' := hW
  obtain ⟨p, q, hA0, hV, rfl, hfz, hnd⟩ := hW
  have hA : DataW.TrodAll enc Try.prog W 0 (fun _ => true) true Try.f6.params.toList args.toList ds p := hA0
  rw [Try.params6] at hA hval
  obtain ⟨v0, vs0, d0, ds0, p0, q0, hargs, rfl, rfl, h0, r0⟩ := trodAll_cons hA
  obtain ⟨rfl, rfl, rfl⟩ := trodAll_nil r0
  obtain rfl : args = #[v0] := by cases args; simp_all
  obtain ⟨rfl, rfl⟩ := trodVars_none hV
  have k0 := h0
  have lt0 : ∀ x ∈ p0, x.block < W.heap.size := by obtain ⟨m, hm⟩ := k0; exact DataW.trod_lt m _ _ _ hm
  obtain ⟨A0, c0, l0, rfl, hc0, hm0, hf0, hr0⟩ := openArgWrite (hval 0 41 v0 rfl rfl) h0
  clear hA0 hval0
  refine (walk A0 c0 l0 W hc0 hm0 hf0 hr0).mono fun e W' ⟨he, bel⟩ => ?_
  subst he
  exact ⟨_, rfl, _, _, _, [], _, [], hW', trodAll_mk1 (shut_bool Try.underlying4 _), (trodAll_cons_mk (Below.trod Whole.laidOut (by kernel_rfl) (of_decide_eq_true (by kernel_rfl)) k0 bel lt0) trodAll_mk0), rfl, bel.frame _, fun h => by cases h⟩

theorem named : Try.prog.funcNamed Rows.fnExactWritesOkRow.func = some 6 := by kernel_rfl
theorem closed : Whole.lawFacts Try.prog 6 Try.f6 Rows.fnExactWritesOkSpec Rows.fnExactWritesOkRow = true := by kernel_rfl
theorem inst : Try.f6.isInstance Try.prog Rows.fnExactWritesOkRow.origin Rows.fnExactWritesOkRow.targs := of_decide_eq_true (by kernel_rfl)
theorem wrap : Try.f6.isWrapper Try.prog Rows.fnExactWritesOkRow.wrapper Rows.fnExactWritesOkRow.mainSum := by
  unfold Func.isWrapper; first | (rw [if_pos (by decide +kernel)]; kernel_rfl) | (rw [if_neg (by decide +kernel)]; exact ⟨rfl, rfl⟩)
theorem over : Rows.fnExactWritesOkRow.holds Try.pinned (OpenSpec.ofChange Rows.fnExactWritesOkSpec) :=
  OpenClaim.holds_of_wide 6 Try.f6 rfl rfl rfl rfl rfl rfl rfl ⟨rfl, rfl, rfl, rfl, rfl⟩ rfl rfl rfl rfl rfl named Try.func6 (Whole.facts_of closed)
    inst wrap (fun os started H enc _ => lifted os started H enc)

theorem proved : Rows.FnExactWritesOkSaid := over
#print axioms proved
end Go.Proofs.Ytbhdgalkedegjaa.fnExactWritesOk
