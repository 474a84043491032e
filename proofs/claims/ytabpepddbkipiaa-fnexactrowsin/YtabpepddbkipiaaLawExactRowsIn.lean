/- The law FnExactRowsIn: for every list of rows and every two texts the program's RowsIn answers as the model's RowsIn, writes into no argument, and answers in memory of its own: for every input the call returns true, and the arguments read afterwards as before. No conditions. -/
import Derived.Test.YtabpepddbkipiaaRows
import Derived.Test.YtabpepddbkipiaaWhole
import Derived.Test.YtabpepddbkipiaaArg
import Derived.Test.YtabpepddbkipiaaSz
import Derived.Test.YtabpepddbkipiaaTo
import Derived.Test.YtabpepddbkipiaaEq
import Derived.Test.YtabpepddbkipiaaLw
import Derived.Test.YtabpepddbkipiaaIn3
import Derived.WalkKit
import Derived.ProofKit
import Derived.OpenShut
import Derived.ShutString
import Derived.ChangeOld
import Derived.Below
namespace Go.Proofs.Ytabpepddbkipiaa.fnExactRowsIn
open Go.ChangeShapes Go.WideShapes Go.ChangeAt Go.RowKit
open Go.ChangeMaps (open_string shut_string)
set_option linter.unusedVariables false

set_option maxRecDepth 100000 in
set_option maxHeartbeats 1000000 in
theorem walk (A0 : Option Addr) (c0 : Nat) (l0 : List R) (s1 : ByteArray) (s2 : ByteArray) (w : World) (hc0 : l0.length ≤ c0) (hm0 : c0 ≤ maxLen) (hf0 : FitR l0) (hr0 : Rd w w.heap.size A0 l0) (hs1 : s1.size ≤ maxLen) (hs2 : s2.size ≤ maxLen) :
    Calls Try.prog 8 #[.slice A0 l0.length c0, .string s1, .string s2] w fun e w' => e = .returned (.bool true) ∧ Below w.heap.size w w' := by
  by_cases hk_s1 : (1048576 : Int) < (s1.size : Int)
  · go_enter Try.func8, Try.ntmps8
    go_wp2
    go_ret
    exact ⟨rfl, Below.refl _ _⟩
  by_cases hk_s2 : (1048576 : Int) < (s2.size : Int)
  · go_enter Try.func8, Try.ntmps8
    go_wp2
    go_ret
    exact ⟨rfl, Below.refl _ _⟩
  by_cases ht : (total l0 : Int) ≤ 1048576
  · have hlen : l0.length ≤ 1048576 := by have := total_len l0; omega
    have e0 : szR 1048576 (total l0) = 1048576 - total l0 := szR_pos ht
    have H0 := Lib.hid e0
    have hbig : l0.length ≤ maxLen := by omega
    clear e0
    have hvl : (inV l0 s1 s2).length ≤ 1048577 := by have := inV_length l0 s1 s2; omega
    generalize hVV : inV l0 s1 s2 = lv at hvl
    have HV := Lib.hid hVV
    clear hVV
    have HE := Lib.hid (eqL_yes (rfl : lv = lv))
    have HE0 := Lib.hid (eqL_yes (rfl : l0 = l0))
    go_enter Try.func8, Try.ntmps8
    go_wp2_with fail
    refine (szRowS_c A0 c0 l0 1048576 w hf0 hc0 hm0 (by omega) (by omega) hr0).mono ?_
    rintro e w1 ⟨rfl, hb1⟩
    rw [H0.out]
    have hr1 := (hr0.below hb1).more hb1.size
    go_wp2_with fail
    refine (toOwn_c A0 c0 l0 w1 hc0 hlen hr1).mono ?_
    rintro e w2 ⟨g1, rfl, hX1, _, _, hb2⟩
    have hw2 := below_next hb1 hb2
    go_wp2_with fail
    refine (specIn _ _ l0 s1 s2 w2 hf0 (Nat.le_refl _) hbig hlen hX1.rd).mono ?_
    rw [HV.out]
    rintro e w3 ⟨V, rfl, hV, hb3⟩
    have hw3 := below_next hw2 hb3
    have hVlt : ∀ g, V.ownBlock = some g → g < w3.heap.size := fun g hg => (hV.block_lt hg).2
    have hr3 := (hr0.below hw3).more hw3.size
    go_wp2_with fail
    refine (toOwn_c A0 c0 l0 w3 hc0 hlen hr3).mono ?_
    rintro e w4 ⟨g2, rfl, hX, hg2, hg2', hb4⟩
    have hw4 := below_next hw3 hb4
    have hV4 := hV.next hb4
    go_wp2_with fail
    refine (implIn _ _ l0 s1 s2 w4 hf0 (Nat.le_refl _) hlen hX.rd).mono ?_
    rw [HV.out]
    rintro e w5 ⟨G, rfl, hG, hb5⟩
    have hw5 := below_next hw4 hb5
    have hV5 := hV4.next hb5
    have hX5 := hX.next hb5
    go_wp2_with fail
    refine (eqOwn_c G V lv lv _ _ w5 hG hV5 (by omega) (by omega)).mono ?_
    rintro e w6 ⟨rfl, hb6⟩
    rw [HE.out]
    have hw6 := below_next hw5 hb6
    have hV6 := hV5.next hb6
    have hX6 := hX5.next hb6
    have hG6 := hG.next hb6
    have hr6 := (hr0.below hw6).more hw6.size
    go_wp2_with fail
    refine (toOwn_c A0 c0 l0 w6 hc0 hlen hr6).mono ?_
    rintro e w7 ⟨g3, rfl, hY, hg3, _, hb7⟩
    have hw7 := below_next hw6 hb7
    have hV7 := hV6.next hb7
    have hX7 := hX6.next hb7
    have hG7 := hG6.next hb7
    go_wp2_with fail
    refine (eqOwn_c _ _ l0 l0 _ _ w7 hX7 hY (by omega) (by omega)).mono ?_
    rintro e w8 ⟨rfl, hb8⟩
    rw [HE0.out]
    have hw8 := below_next hw7 hb8
    have hV8 := hV7.next hb8
    have hX8 := hX7.next hb8
    have hG8 := hG7.next hb8
    go_wp2_with fail
    refine (markR_c _ l0 _ 1 w8 hX8 (by omega) (by omega)).mono ?_
    rintro e w9 ⟨rfl, hM9, hgr9⟩
    have hle3 := hw3.size
    have hw9 : Below w.heap.size w w9 := belowGrow hw8 hgr9 (fun k hk => by have : g2 = k := Option.some.inj hk; omega)
    have hV9 := hV8.kept hgr9 (fun g hg h => by have h1 := hVlt g hg; have : g = g2 := Option.some.inj h; omega)
    have hG9 := hG8.kept hgr9 (fun g hg h => by have h1 := (hG8.block_lt hg).1; have : g = g2 := Option.some.inj h; omega)
    have hGge : ∀ g, G.ownBlock = some g → w4.heap.size ≤ g := fun g hg => (hG8.block_lt hg).1
    have hle4 := hb4.size
    have hle34 := hw4.size
    clear hM9 hgr9 hX8 hX7 hX6 hX5 hX hY hV8 hV7 hV6 hV5 hV4 hG8 hG7 hG6
    go_wp2_with fail
    refine (eqOwn_c G V lv lv _ _ w9 hG9 hV9 (by omega) (by omega)).mono ?_
    rintro e w10 ⟨rfl, hb10⟩
    rw [HE.out]
    have hw10 := below_next hw9 hb10
    have hV10 := hV9.next hb10
    have hG10 := hG9.next hb10
    go_wp2_with fail
    refine (markR_c G lv _ 1 w10 hG10 (by omega) (by omega)).mono ?_
    rintro e w11 ⟨rfl, hM, hgr⟩
    have hw11 : Below w.heap.size w w11 := belowGrow hw10 hgr (fun k hk => by have := hGge k hk; omega)
    have hV11 := hV10.kept hgr (fun g hg h => by have h1 := hVlt g hg; have h2 := hGge g h.symm; omega)
    go_wp2_with fail
    refine (heldR_c G lv.length _ 1 w11 hM (by omega) (by omega)).mono ?_
    rintro e w12 ⟨rfl, hb12⟩
    have hw12 := below_next hw11 hb12
    have hV12 := hV11.next hb12
    have hM12 := hM.next hb12
    have hr12 := (hr0.below hw12).more hw12.size
    go_wp2_with fail
    refine (toOwn_c A0 c0 l0 w12 hc0 hlen hr12).mono ?_
    rintro e w13 ⟨g4, rfl, hX13, _, _, hb13⟩
    have hw13 := below_next hw12 hb13
    have hV13 := hV12.next hb13
    have hM13 := hM12.next hb13
    go_wp2_with fail
    refine (implIn _ _ l0 s1 s2 w13 hf0 (Nat.le_refl _) hlen hX13.rd).mono ?_
    rw [HV.out]
    rintro e w14 ⟨H, rfl, hH, hb14⟩
    have hw14 := below_next hw13 hb14
    have hV14 := hV13.next hb14
    have hM14 := hM13.next hb14
    go_wp2_with fail
    refine (eqOwn_c H V lv lv _ _ w14 hH hV14 (by omega) (by omega)).mono ?_
    rintro e w15 ⟨rfl, hb15⟩
    rw [HE.out]
    have hw15 := below_next hw14 hb15
    have hM15 := hM14.next hb15
    go_wp2_with fail
    refine (heldR_c G lv.length _ 1 w15 hM15 (by omega) (by omega)).mono ?_
    rintro e w16 ⟨rfl, hb16⟩
    have hw16 := below_next hw15 hb16
    go_wp2
    go_ret
    exact ⟨rfl, hw16⟩
  · have e0 : szR 1048576 (total l0) = -1 := szR_neg (by omega)
    have H0 := Lib.hid e0
    clear e0
    go_enter Try.func8, Try.ntmps8
    go_wp2_with fail
    refine (szRowS_c A0 c0 l0 1048576 w hf0 hc0 hm0 (by omega) (by omega) hr0).mono ?_
    rintro e w1 ⟨rfl, hb1⟩
    rw [H0.out]
    go_wp2
    go_ret
    exact ⟨rfl, hb1⟩

set_option maxRecDepth 100000 in
theorem lifted (os : Os) (started : os.Started) (H : Type) (enc : TypeId × Value → H) :
    ReturnsInHanded {} Try.checked os 8 .any (Rows.fnExactRowsInSpec.pre6 enc Try.prog Try.f8 Rows.fnExactRowsInRow.domain false) (Rows.fnExactRowsInSpec.post enc Try.prog Try.f8 false true false false) := by
  refine returnsInHanded_of_change (C := Try.checked) Whole.own started (by kernel_rfl) Try.func8
    (ChangeSpec.witness6 (enc := enc) (C := Try.checked) false ⟨#[], #[.slice none 0 0, .string ByteArray.empty, .string ByteArray.empty], []⟩ 8 (by kernel_rfl) (by kernel_rfl) (by kernel_rfl) (by kernel_rfl)) ?_
  intro W base args ds gs before hval0 hW hcnd _
  have hval : ∀ (j : Nat) t v, Try.f8.params[j]? = some t → args[j]? = some v → Value.okWide Try.prog W .any base t v := hval0
  have hW' := hW
  obtain ⟨p, q, hA0, hV, rfl, hfz, hnd⟩ := hW
  have hA : DataW.TrodAll enc Try.prog W 0 (fun _ => true) true Try.f8.params.toList args.toList ds p := hA0
  rw [Try.params8] at hA hval
  obtain ⟨v0, vs0, d0, ds0, p0, q0, hargs, rfl, rfl, h0, r0⟩ := trodAll_cons hA
  obtain ⟨v1, vs1, d1, ds1, p1, q1, rfl, rfl, rfl, h1, r1⟩ := trodAll_cons r0
  obtain ⟨v2, vs2, d2, ds2, p2, q2, rfl, rfl, rfl, h2, r2⟩ := trodAll_cons r1
  obtain ⟨rfl, rfl, rfl⟩ := trodAll_nil r2
  obtain rfl : args = #[v0, v1, v2] := by cases args; simp_all
  obtain ⟨rfl, rfl⟩ := trodVars_none hV
  have k0 := h0
  have lt0 : ∀ x ∈ p0, x.block < W.heap.size := by obtain ⟨m, hm⟩ := k0; exact DataW.trod_lt m _ _ _ hm
  obtain ⟨A0, c0, l0, rfl, hc0, hm0, hf0, hr0⟩ := openRows (hval 0 23 v0 rfl rfl) h0
  obtain ⟨s1, rfl, rfl, rfl, hs1⟩ := open_string Try.underlying9 (hval 1 9 v1 rfl rfl) h1
  obtain ⟨s2, rfl, rfl, rfl, hs2⟩ := open_string Try.underlying9 (hval 2 9 v2 rfl rfl) h2
  clear hA0 hval0
  refine (walk A0 c0 l0 s1 s2 W hc0 hm0 hf0 hr0 hs1 hs2).mono fun e W' ⟨he, bel⟩ => ?_
  subst he
  exact ⟨_, rfl, _, _, _, [], _, [], hW', trodAll_mk1 (shut_bool Try.underlying4 _), (trodAll_cons_mk (Below.trod Whole.laidOut (by kernel_rfl) (of_decide_eq_true (by kernel_rfl)) k0 bel lt0) (trodAll_cons_mk (shut_string Try.underlying9 hs1) (trodAll_cons_mk (shut_string Try.underlying9 hs2) trodAll_mk0))), rfl, bel.frame _, fun h => by cases h⟩

theorem named : Try.prog.funcNamed Rows.fnExactRowsInRow.func = some 8 := by kernel_rfl
theorem closed : Whole.lawFacts Try.prog 8 Try.f8 Rows.fnExactRowsInSpec Rows.fnExactRowsInRow = true := by kernel_rfl
theorem inst : Try.f8.isInstance Try.prog Rows.fnExactRowsInRow.origin Rows.fnExactRowsInRow.targs := of_decide_eq_true (by kernel_rfl)
theorem wrap : Try.f8.isWrapper Try.prog Rows.fnExactRowsInRow.wrapper Rows.fnExactRowsInRow.mainSum := by
  unfold Func.isWrapper; first | (rw [if_pos (by decide +kernel)]; kernel_rfl) | (rw [if_neg (by decide +kernel)]; exact ⟨rfl, rfl⟩)
theorem over : Rows.fnExactRowsInRow.holds Try.pinned (OpenSpec.ofChange Rows.fnExactRowsInSpec) :=
  OpenClaim.holds_of_wide 8 Try.f8 rfl rfl rfl rfl rfl rfl rfl ⟨rfl, rfl, rfl, rfl, rfl⟩ rfl rfl rfl rfl rfl named Try.func8 (Whole.facts_of closed)
    inst wrap (fun os started H enc _ => lifted os started H enc)

theorem proved : Rows.FnExactRowsInSaid := over
#print axioms proved
end Go.Proofs.Ytabpepddbkipiaa.fnExactRowsIn
