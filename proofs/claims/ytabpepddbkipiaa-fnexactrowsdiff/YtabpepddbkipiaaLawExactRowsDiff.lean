/- The law FnExactRowsDiff: for every two lists of rows the program's RowsDiff answers as the model's RowsDiff, writes into no argument, and answers in memory of its own: for every input the call returns true, and the arguments read afterwards as before. No conditions. -/
import Derived.Test.YtabpepddbkipiaaRows
import Derived.Test.YtabpepddbkipiaaWhole
import Derived.Test.YtabpepddbkipiaaArg
import Derived.Test.YtabpepddbkipiaaSz
import Derived.Test.YtabpepddbkipiaaTo
import Derived.Test.YtabpepddbkipiaaEq
import Derived.Test.YtabpepddbkipiaaLw
import Derived.Test.YtabpepddbkipiaaDiff1
import Derived.Test.YtabpepddbkipiaaDiff2
import Derived.WalkKit
import Derived.ProofKit
import Derived.OpenShut
import Derived.ShutString
import Derived.ChangeOld
import Derived.Below
namespace Go.Proofs.Ytabpepddbkipiaa.fnExactRowsDiff
open Go.ChangeShapes Go.WideShapes Go.ChangeAt Go.RowKit
open Go.ChangeMaps (open_string shut_string)
set_option linter.unusedVariables false

set_option maxRecDepth 100000 in
set_option maxHeartbeats 1000000 in
theorem walk (A0 : Option Addr) (c0 : Nat) (l0 : List R) (A1 : Option Addr) (c1 : Nat) (l1 : List R) (w : World) (hc0 : l0.length ≤ c0) (hm0 : c0 ≤ maxLen) (hf0 : FitR l0) (hr0 : Rd w w.heap.size A0 l0) (hc1 : l1.length ≤ c1) (hm1 : c1 ≤ maxLen) (hf1 : FitR l1) (hr1 : Rd w w.heap.size A1 l1) :
    Calls Try.prog 10 #[.slice A0 l0.length c0, .slice A1 l1.length c1] w fun e w' => e = .returned (.bool true) ∧ Below w.heap.size w w' := by
  by_cases ht0 : (total l0 : Int) ≤ 1048576
  · have e0 : szR 1048576 (total l0) = 1048576 - total l0 := szR_pos ht0
    have H0 := Lib.hid e0
    clear e0
    have hlen0 : l0.length ≤ 1048576 := by have := total_len l0; omega
    by_cases ht1 : (total l1 : Int) ≤ 1048576 - total l0
    · have e1 : szR (1048576 - total l0) (total l1) = 1048576 - total l0 - total l1 := szR_pos ht1
      have H1 := Lib.hid e1
      clear e1
      have hlen1 : l1.length ≤ 1048576 := by have := total_len l1; omega
      have hsum : l0.length + l1.length ≤ 1048576 := by have := total_len l0; have := total_len l1; omega
      have hbig0 : l0.length ≤ maxLen := by omega
      have hbig1 : l1.length ≤ maxLen := by omega
      have hvl : (diffV l0 l1).length ≤ 1048576 := by
        unfold diffV
        split
        · have := diffF_length (l0.length + l1.length) l0 l1; unfold diffL; omega
        · simp
      generalize hVV : diffV l0 l1 = lv at hvl
      have HV := Lib.hid hVV
      clear hVV
      have HE := Lib.hid (eqT_yes (rfl : lv = lv))
      have HE0 := Lib.hid (eqL_yes (rfl : l0 = l0))
      have HE1 := Lib.hid (eqL_yes (rfl : l1 = l1))
      go_enter Try.func10, Try.ntmps10
      go_wp2_with fail
      refine (szRowS_c A0 c0 l0 1048576 w hf0 hc0 hm0 (by omega) (by omega) hr0).mono ?_
      rintro e w1 ⟨rfl, hb1⟩
      rw [H0.out]
      have hr11 := (hr1.below hb1).more hb1.size
      go_wp2_with fail
      refine (szRowS_c A1 c1 l1 (1048576 - total l0) w1 hf1 hc1 hm1 (by omega) (by omega) hr11).mono ?_
      rintro e w2 ⟨rfl, hb2⟩
      rw [H1.out]
      have hw2 := below_next hb1 hb2
      have hr02 := (hr0.below hw2).more hw2.size
      go_wp2_with fail
      refine (toOwn_c A0 c0 l0 w2 hc0 hlen0 hr02).mono ?_
      rintro e w3 ⟨ga, rfl, hX1, _, _, hb3⟩
      have hw3 := below_next hw2 hb3
      have hr13 := (hr1.below hw3).more hw3.size
      go_wp2_with fail
      refine (toOwn_c A1 c1 l1 w3 hc1 hlen1 hr13).mono ?_
      rintro e w4 ⟨gb, rfl, hX2, _, _, hb4⟩
      have hw4 := below_next hw3 hb4
      go_wp2_with fail
      refine (specDiff _ _ _ _ l0 l1 w4 hf0 hf1 (Nat.le_refl _) (Nat.le_refl _) hbig0 hbig1 hlen0 hlen1 (hX1.next hb4).rd hX2.rd).mono ?_
      rw [HV.out]
      rintro e w5 ⟨V, rfl, hV, hb5⟩
      have hw5 := below_next hw4 hb5
      have hVlt : ∀ g, V.ownBlock = some g → g < w5.heap.size := fun g hg => (hV.block_lt hg).2
      clear hX1 hX2
      have hr05 := (hr0.below hw5).more hw5.size
      go_wp2_with fail
      refine (toOwn_c A0 c0 l0 w5 hc0 hlen0 hr05).mono ?_
      rintro e w6 ⟨gx, rfl, hX, hgx, hgx', hb6⟩
      have hw6 := below_next hw5 hb6
      have hV6 := hV.next hb6
      have hr16 := (hr1.below hw6).more hw6.size
      go_wp2_with fail
      refine (toOwn_c A1 c1 l1 w6 hc1 hlen1 hr16).mono ?_
      rintro e w7 ⟨gy, rfl, hY, hgy, hgy', hb7⟩
      have hw7 := below_next hw6 hb7
      have hV7 := hV6.next hb7
      have hX7 := hX.next hb7
      go_wp2_with fail
      refine (implDiff _ _ _ _ l0 l1 w7 hf0 hf1 hlen0 hlen1 hX7.rd hY.rd).mono ?_
      rw [HV.out]
      rintro e w8 ⟨G, rfl, hG, hb8⟩
      have hw8 := below_next hw7 hb8
      have hV8 := hV7.next hb8
      have hX8 := hX7.next hb8
      have hY8 := hY.next hb8
      have hGge : ∀ g, G.ownBlock = some g → w7.heap.size ≤ g := fun g hg => (hG.block_lt hg).1
      go_wp2_with fail
      refine (eqStringS_o hG hV8 (by omega) (by omega)).mono ?_
      rintro e w9 ⟨rfl, hb9⟩
      rw [HE.out]
      have hw9 := below_next hw8 hb9
      have hV9 := hV8.next hb9
      have hX9 := hX8.next hb9
      have hY9 := hY8.next hb9
      have hG9 := hG.next hb9
      clear hV6 hV7 hV8 hX hX7 hX8 hY hY8 hG
      have hr09 := (hr0.below hw9).more hw9.size
      go_wp2_with fail
      refine (toOwn_c A0 c0 l0 w9 hc0 hlen0 hr09).mono ?_
      rintro e w10 ⟨gz, rfl, hZ, _, _, hb10⟩
      have hw10 := below_next hw9 hb10
      go_wp2_with fail
      refine (eqOwn_c _ _ l0 l0 _ _ w10 (hX9.next hb10) hZ (by omega) (by omega)).mono ?_
      rintro e w11 ⟨rfl, hb11⟩
      rw [HE0.out]
      have hbc := below_next hb10 hb11
      have hw11 := below_next hw9 hbc
      have hV11 := hV9.next hbc
      have hX11 := hX9.next hbc
      have hY11 := hY9.next hbc
      have hG11 := hG9.next hbc
      clear hV9 hX9 hY9 hG9 hZ
      have hr111 := (hr1.below hw11).more hw11.size
      go_wp2_with fail
      refine (toOwn_c A1 c1 l1 w11 hc1 hlen1 hr111).mono ?_
      rintro e w12 ⟨gw, rfl, hZ, _, _, hb12⟩
      have hw12 := below_next hw11 hb12
      go_wp2_with fail
      refine (eqOwn_c _ _ l1 l1 _ _ w12 (hY11.next hb12) hZ (by omega) (by omega)).mono ?_
      rintro e w13 ⟨rfl, hb13⟩
      rw [HE1.out]
      have hbd := below_next hb12 hb13
      have hw13 := below_next hw11 hbd
      have hV13 := hV11.next hbd
      have hX13 := hX11.next hbd
      have hY13 := hY11.next hbd
      have hG13 := hG11.next hbd
      clear hV11 hX11 hY11 hG11 hZ
      have s5 := hw5.size
      have s6 := hb6.size
      have s7 := hb7.size
      go_wp2_with fail
      refine (markR_c _ l0 _ 1 w13 hX13 (by omega) (by omega)).mono ?_
      rintro e w14 ⟨rfl, _, hgr14⟩
      have hw14 : Below w.heap.size w w14 := belowGrow hw13 hgr14 (fun k hk => by have : gx = k := Option.some.inj hk; omega)
      have hV14 := hV13.kept hgr14 (fun g hg h => by have h1 := hVlt g hg; have : g = gx := Option.some.inj h; omega)
      have hG14 := hG13.kept hgr14 (fun g hg h => by have h1 := hGge g hg; have : g = gx := Option.some.inj h; omega)
      have hY14 := hY13.kept hgr14 (fun g hg h => by have e1 : gy = g := Option.some.inj hg; have : g = gx := Option.some.inj h; omega)
      clear hV13 hX13 hY13 hG13 hgr14
      go_wp2_with fail
      refine (markR_c _ l1 _ (1 + 2 * l0.length) w14 hY14 (by omega) (by omega)).mono ?_
      rintro e w15 ⟨rfl, _, hgr15⟩
      have hw15 : Below w.heap.size w w15 := belowGrow hw14 hgr15 (fun k hk => by have : gy = k := Option.some.inj hk; omega)
      have hV15 := hV14.kept hgr15 (fun g hg h => by have h1 := hVlt g hg; have : g = gy := Option.some.inj h; omega)
      have hG15 := hG14.kept hgr15 (fun g hg h => by have h1 := hGge g hg; have : g = gy := Option.some.inj h; omega)
      clear hV14 hG14 hY14 hgr15
      go_wp2_with fail
      refine (eqStringS_o hG15 hV15 (by omega) (by omega)).mono ?_
      rintro e w16 ⟨rfl, hb16⟩
      rw [HE.out]
      have hw16 := below_next hw15 hb16
      have hV16 := hV15.next hb16
      have hG16 := hG15.next hb16
      go_wp2_with fail
      refine (markS_c G lv _ 1 w16 hG16 (by omega) (by omega)).mono ?_
      rintro e w17 ⟨rfl, hM, hgr17⟩
      have hw17 : Below w.heap.size w w17 := belowGrow hw16 hgr17 (fun k hk => by have := hGge k hk; omega)
      have hV17 := hV16.kept hgr17 (fun g hg h => by have h1 := hVlt g hg; have h2 := hGge g h.symm; omega)
      clear hV15 hV16 hG15 hG16 hgr17
      go_wp2_with fail
      refine (heldS_c G lv.length _ 1 w17 hM (by omega) (by omega)).mono ?_
      rintro e w18 ⟨rfl, hb18⟩
      have hw18 := below_next hw17 hb18
      have hV18 := hV17.next hb18
      have hM18 := hM.next hb18
      have hr018 := (hr0.below hw18).more hw18.size
      go_wp2_with fail
      refine (toOwn_c A0 c0 l0 w18 hc0 hlen0 hr018).mono ?_
      rintro e w19 ⟨g4, rfl, hX19, _, _, hb19⟩
      have hw19 := below_next hw18 hb19
      have hr119 := (hr1.below hw19).more hw19.size
      go_wp2_with fail
      refine (toOwn_c A1 c1 l1 w19 hc1 hlen1 hr119).mono ?_
      rintro e w20 ⟨g5, rfl, hY20, _, _, hb20⟩
      have hw20 := below_next hw19 hb20
      go_wp2_with fail
      refine (implDiff _ _ _ _ l0 l1 w20 hf0 hf1 hlen0 hlen1 (hX19.next hb20).rd hY20.rd).mono ?_
      rw [HV.out]
      rintro e w21 ⟨H, rfl, hH, hb21⟩
      have hw21 := below_next hw20 hb21
      have hV21 := ((hV18.next hb19).next hb20).next hb21
      have hM21 := ((hM18.next hb19).next hb20).next hb21
      go_wp2_with fail
      refine (eqStringS_o hH hV21 (by omega) (by omega)).mono ?_
      rintro e w22 ⟨rfl, hb22⟩
      rw [HE.out]
      have hw22 := below_next hw21 hb22
      go_wp2_with fail
      refine (heldS_c G lv.length _ 1 w22 (hM21.next hb22) (by omega) (by omega)).mono ?_
      rintro e w23 ⟨rfl, hb23⟩
      go_wp2
      go_ret
      exact ⟨rfl, below_next hw22 hb23⟩
    · have e1 : szR (1048576 - total l0) (total l1) = -1 := szR_neg (by omega)
      have H1 := Lib.hid e1
      clear e1
      go_enter Try.func10, Try.ntmps10
      go_wp2_with fail
      refine (szRowS_c A0 c0 l0 1048576 w hf0 hc0 hm0 (by omega) (by omega) hr0).mono ?_
      rintro e w1 ⟨rfl, hb1⟩
      rw [H0.out]
      have hr11 := (hr1.below hb1).more hb1.size
      go_wp2_with fail
      refine (szRowS_c A1 c1 l1 (1048576 - total l0) w1 hf1 hc1 hm1 (by omega) (by omega) hr11).mono ?_
      rintro e w2 ⟨rfl, hb2⟩
      rw [H1.out]
      go_wp2
      go_ret
      exact ⟨rfl, below_next hb1 hb2⟩
  · have e0 : szR 1048576 (total l0) = -1 := szR_neg (by omega)
    have H0 := Lib.hid e0
    clear e0
    go_enter Try.func10, Try.ntmps10
    go_wp2_with fail
    refine (szRowS_c A0 c0 l0 1048576 w hf0 hc0 hm0 (by omega) (by omega) hr0).mono ?_
    rintro e w1 ⟨rfl, hb1⟩
    rw [H0.out]
    go_wp2
    go_ret
    exact ⟨rfl, hb1⟩

set_option maxRecDepth 100000 in
theorem lifted (os : Os) (started : os.Started) (H : Type) (enc : TypeId × Value → H) :
    ReturnsInHanded {} Try.checked os 10 .any (Rows.fnExactRowsDiffSpec.pre6 enc Try.prog Try.f10 Rows.fnExactRowsDiffRow.domain false) (Rows.fnExactRowsDiffSpec.post enc Try.prog Try.f10 false true false false) := by
  refine returnsInHanded_of_change (C := Try.checked) Whole.own started (by kernel_rfl) Try.func10
    (ChangeSpec.witness6 (enc := enc) (C := Try.checked) false ⟨#[], #[.slice none 0 0, .slice none 0 0], []⟩ 8 (by kernel_rfl) (by kernel_rfl) (by kernel_rfl) (by kernel_rfl)) ?_
  intro W base args ds gs before hval0 hW hcnd _
  have hval : ∀ (j : Nat) t v, Try.f10.params[j]? = some t → args[j]? = some v → Value.okWide Try.prog W .any base t v := hval0
  have hW' := hW
  obtain ⟨p, q, hA0, hV, rfl, hfz, hnd⟩ := hW
  have hA : DataW.TrodAll enc Try.prog W 0 (fun _ => true) true Try.f10.params.toList args.toList ds p := hA0
  rw [Try.params10] at hA hval
  obtain ⟨v0, vs0, d0, ds0, p0, q0, hargs, rfl, rfl, h0, r0⟩ := trodAll_cons hA
  obtain ⟨v1, vs1, d1, ds1, p1, q1, rfl, rfl, rfl, h1, r1⟩ := trodAll_cons r0
  obtain ⟨rfl, rfl, rfl⟩ := trodAll_nil r1
  obtain rfl : args = #[v0, v1] := by cases args; simp_all
  obtain ⟨rfl, rfl⟩ := trodVars_none hV
  have k0 := h0
  have lt0 : ∀ x ∈ p0, x.block < W.heap.size := by obtain ⟨m, hm⟩ := k0; exact DataW.trod_lt m _ _ _ hm
  obtain ⟨A0, c0, l0, rfl, hc0, hm0, hf0, hr0⟩ := openRows (hval 0 23 v0 rfl rfl) h0
  have k1 := h1
  have lt1 : ∀ x ∈ p1, x.block < W.heap.size := by obtain ⟨m, hm⟩ := k1; exact DataW.trod_lt m _ _ _ hm
  obtain ⟨A1, c1, l1, rfl, hc1, hm1, hf1, hr1⟩ := openRows (hval 1 23 v1 rfl rfl) h1
  clear hA0 hval0
  refine (walk A0 c0 l0 A1 c1 l1 W hc0 hm0 hf0 hr0 hc1 hm1 hf1 hr1).mono fun e W' ⟨he, bel⟩ => ?_
  subst he
  exact ⟨_, rfl, _, _, _, [], _, [], hW', trodAll_mk1 (shut_bool Try.underlying4 _), (trodAll_cons_mk (Below.trod Whole.laidOut (by kernel_rfl) (of_decide_eq_true (by kernel_rfl)) k0 bel lt0) (trodAll_cons_mk (Below.trod Whole.laidOut (by kernel_rfl) (of_decide_eq_true (by kernel_rfl)) k1 bel lt1) trodAll_mk0)), rfl, bel.frame _, fun h => by cases h⟩

theorem named : Try.prog.funcNamed Rows.fnExactRowsDiffRow.func = some 10 := by kernel_rfl
theorem closed : Whole.lawFacts Try.prog 10 Try.f10 Rows.fnExactRowsDiffSpec Rows.fnExactRowsDiffRow = true := by kernel_rfl
theorem inst : Try.f10.isInstance Try.prog Rows.fnExactRowsDiffRow.origin Rows.fnExactRowsDiffRow.targs := of_decide_eq_true (by kernel_rfl)
theorem wrap : Try.f10.isWrapper Try.prog Rows.fnExactRowsDiffRow.wrapper Rows.fnExactRowsDiffRow.mainSum := by
  unfold Func.isWrapper; first | (rw [if_pos (by decide +kernel)]; kernel_rfl) | (rw [if_neg (by decide +kernel)]; exact ⟨rfl, rfl⟩)
theorem over : Rows.fnExactRowsDiffRow.holds Try.pinned (OpenSpec.ofChange Rows.fnExactRowsDiffSpec) :=
  OpenClaim.holds_of_wide 10 Try.f10 rfl rfl rfl rfl rfl rfl rfl ⟨rfl, rfl, rfl, rfl, rfl⟩ rfl rfl rfl rfl rfl named Try.func10 (Whole.facts_of closed)
    inst wrap (fun os started H enc _ => lifted os started H enc)

theorem proved : Rows.FnExactRowsDiffSaid := over
#print axioms proved
end Go.Proofs.Ytabpepddbkipiaa.fnExactRowsDiff
