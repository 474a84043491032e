/- For all pairs of halls, of the law's own type, that the law takes (a bounded size), HallSame of the program answers as the specification's HallSame, and leaves its arguments as they were. No conditions. -/
import Derived.Test.YtheblejlmlfddaaRows
import Derived.Test.YtheblejlmlfddaaWhole
import Derived.Test.YtheblejlmlfddaaHlV
import Derived.WalkKit
import Derived.ProofKit
import Derived.OpenShut
import Derived.ShutString
import Derived.ChangeOld
import Derived.Below
namespace Go.Proofs.Ytheblejlmlfddaa.fnExactHallSame
open Go.ChangeShapes Go.WideShapes Go.ChangeAt Go.RowKit
open Go.ChangeMaps (open_string shut_string)
set_option linter.unusedVariables false

set_option maxRecDepth 100000 in
set_option maxHeartbeats 1000000 in
theorem walk (z0 : Int) (A0 : Option Addr) (c0 : Nat) (l0 : List V) (C0 : Option Addr) (m0 : Nat) (rt0 : List TT) (z1 : Int) (A1 : Option Addr) (c1 : Nat) (l1 : List V) (C1 : Option Addr) (m1 : Nat) (rt1 : List TT) (w : World) (hf0 : FitVs l0) (hc0 : l0.length ≤ c0) (hm0 : c0 ≤ maxLen) (hr0 : RdG w w.heap.size A0 l0) (hg0 : FitTTs w w.heap.size rt0) (hd0 : rt0.length ≤ m0) (hn0 : m0 ≤ maxLen) (hs0 : RdG w w.heap.size C0 rt0) (hf1 : FitVs l1) (hc1 : l1.length ≤ c1) (hm1 : c1 ≤ maxLen) (hr1 : RdG w w.heap.size A1 l1) (hg1 : FitTTs w w.heap.size rt1) (hd1 : rt1.length ≤ m1) (hn1 : m1 ≤ maxLen) (hs1 : RdG w w.heap.size C1 rt1) :
  Calls Try.prog 5 #[.agg #[.int .i64 z0, .slice A0 l0.length c0, .slice C0 rt0.length m0], .agg #[.int .i64 z1, .slice A1 l1.length c1, .slice C1 rt1.length m1]] w fun e w' => e = .returned (.bool true) ∧ Below w.heap.size w w' := by
 have htx0 := totalV_len l0
 have htn0 := totalTT_len rt0
 by_cases ht0 : ((totalV l0 + totalTT rt0 : Nat) : Int) ≤ 1048576
 rotate_left
 ·
  have H0 := Lib.hid (szR_neg (left := 1048576) (k := totalV l0 + totalTT rt0) (by omega))
  obtain ⟨W1, ew1, hv1w, P1, hb1⟩ := al1 w rfl #[.int .i64 z0, .slice A0 l0.length c0, .slice C0 rt0.length m0] 45
  obtain ⟨W2, ew2, hv2w, R1, hb2⟩ := al1 W1 hv1w #[.int .i64 z1, .slice A1 l1.length c1, .slice C1 rt1.length m1] 45
  have F := ((Fr.bel (p := W2.heap.size) (q := W2.heap.size) (below_next hb1 hb2) (by omega)).blk (P1.next hb2) (by omega)).blk R1 (by omega)
  clear P1 R1 hb1 hb2
  have hc := F.hc fun V h => And.intro h.1.2.c3 h.2.c3
  go_enter Try.func5, Try.ntmps5
  have q0 := hc _ F.now
  go_wp2_with fail
  clear q0
  refine (szHall_c (z := z0) 1048576 hf0 hc0 hm0 ((hr0.below F.now.1.1).more F.now.1.1.size) (FitTTs.next hg0 F.now.1.1) hd0 hn0 ((hs0.below F.now.1.1).more F.now.1.1.size) (by omega) (by omega)).mono ?_
  rintro e w1 ⟨rfl, hb⟩
  rw [H0.out]
  replace F := F.next hb
  have hz0 := hb.size
  clear hb
  have q0 := hc _ F.now
  go_wp2
  go_ret
  exact ⟨rfl, F.now.1.1⟩
 obtain ⟨L0, H0, hL0, hL0x⟩ : ∃ L : Int, Hid (szR 1048576 (totalV l0 + totalTT rt0) = L) ∧ 0 ≤ L ∧ L ≤ 1048576 := ⟨_, Lib.hid rfl, by rw [szR_pos ht0]; omega, by rw [szR_pos ht0]; omega⟩
 have hx0 : l0.length ≤ 1048576 := by omega
 have hy0 : totalTT rt0 ≤ 1048576 := by omega
 have hu0 : (ofTT rt0).length ≤ 1048576 := by rw [ofTT_len]; omega
 have hS0 := smT_of hy0
 have hT0 := totalTT_of hy0
 clear ht0 htx0 htn0
 have htx1 := totalV_len l1
 have htn1 := totalTT_len rt1
 by_cases ht1 : ((totalV l1 + totalTT rt1 : Nat) : Int) ≤ L0
 rotate_left
 ·
  have H1 := Lib.hid (szR_neg (left := L0) (k := totalV l1 + totalTT rt1) (by omega))
  obtain ⟨W1, ew1, hv1w, P1, hb1⟩ := al1 w rfl #[.int .i64 z0, .slice A0 l0.length c0, .slice C0 rt0.length m0] 45
  obtain ⟨W2, ew2, hv2w, R1, hb2⟩ := al1 W1 hv1w #[.int .i64 z1, .slice A1 l1.length c1, .slice C1 rt1.length m1] 45
  have F := ((Fr.bel (p := W2.heap.size) (q := W2.heap.size) (below_next hb1 hb2) (by omega)).blk (P1.next hb2) (by omega)).blk R1 (by omega)
  clear P1 R1 hb1 hb2
  have hc := F.hc fun V h => And.intro h.1.2.c3 h.2.c3
  go_enter Try.func5, Try.ntmps5
  have q0 := hc _ F.now
  go_wp2_with fail
  clear q0
  refine (szHall_c (z := z0) 1048576 hf0 hc0 hm0 ((hr0.below F.now.1.1).more F.now.1.1.size) (FitTTs.next hg0 F.now.1.1) hd0 hn0 ((hs0.below F.now.1.1).more F.now.1.1.size) (by omega) (by omega)).mono ?_
  rintro e w1 ⟨rfl, hb⟩
  rw [H0.out]
  replace F := F.next hb
  have hz0 := hb.size
  clear hb
  have q0 := hc _ F.now
  go_wp2_with fail
  clear q0
  refine (szHall_c (z := z1) L0 hf1 hc1 hm1 ((hr1.below F.now.1.1).more F.now.1.1.size) (FitTTs.next hg1 F.now.1.1) hd1 hn1 ((hs1.below F.now.1.1).more F.now.1.1.size) (by omega) (by omega)).mono ?_
  rintro e w2 ⟨rfl, hb⟩
  rw [H1.out]
  replace F := F.next hb
  have hz1 := hb.size
  clear hb
  have q0 := hc _ F.now
  go_wp2
  go_ret
  exact ⟨rfl, F.now.1.1⟩
 obtain ⟨L1, H1, hL1, hL1x⟩ : ∃ L : Int, Hid (szR L0 (totalV l1 + totalTT rt1) = L) ∧ 0 ≤ L ∧ L ≤ 1048576 := ⟨_, Lib.hid rfl, by rw [szR_pos ht1]; omega, by rw [szR_pos ht1]; omega⟩
 have hx1 : l1.length ≤ 1048576 := by omega
 have hy1 : totalTT rt1 ≤ 1048576 := by omega
 have hu1 : (ofTT rt1).length ≤ 1048576 := by rw [ofTT_len]; omega
 have hS1 := smT_of hy1
 have hT1 := totalTT_of hy1
 clear ht1 htx1 htn1
 obtain ⟨SB, HSB⟩ : ∃ SB, Hid (sameH z0 z1 l0 l1 (ofTT rt0) (ofTT rt1) = SB) := ⟨_, Lib.hid rfl⟩
 have hSB : (SB != SB) = false := by cases SB <;> rfl
 obtain ⟨W1, ew1, hv1w, P1, hb1⟩ := al1 w rfl #[.int .i64 z0, .slice A0 l0.length c0, .slice C0 rt0.length m0] 45
 obtain ⟨W2, ew2, hv2w, R1, hb2⟩ := al1 W1 hv1w #[.int .i64 z1, .slice A1 l1.length c1, .slice C1 rt1.length m1] 45
 have F := ((Fr.bel (p := W2.heap.size) (q := W2.heap.size) (below_next hb1 hb2) (by omega)).blk (P1.next hb2) (by omega)).blk R1 (by omega)
 clear P1 R1 hb1 hb2
 have hc := F.hc fun V h => And.intro h.1.2.c3 h.2.c3
 go_enter Try.func5, Try.ntmps5
 have q0 := hc _ F.now
 go_wp2_with fail
 clear q0
 refine (szHall_c (z := z0) 1048576 hf0 hc0 hm0 ((hr0.below F.now.1.1).more F.now.1.1.size) (FitTTs.next hg0 F.now.1.1) hd0 hn0 ((hs0.below F.now.1.1).more F.now.1.1.size) (by omega) (by omega)).mono ?_
 rintro e w1 ⟨rfl, hb⟩
 rw [H0.out]
 replace F := F.next hb
 have hz0 := hb.size
 clear hb
 have q0 := hc _ F.now
 go_wp2_with fail
 clear q0
 refine (szHall_c (z := z1) L0 hf1 hc1 hm1 ((hr1.below F.now.1.1).more F.now.1.1.size) (FitTTs.next hg1 F.now.1.1) hd1 hn1 ((hs1.below F.now.1.1).more F.now.1.1.size) (by omega) (by omega)).mono ?_
 rintro e w2 ⟨rfl, hb⟩
 rw [H1.out]
 replace F := F.next hb
 have hz1 := hb.size
 clear hb
 have q0 := hc _ F.now
 go_wp2
 clear q0
 refine reg F fun d5 hd F1 => ?_
 have hy5d := hd.size
 clear F hd; have F := F1; clear F1
 refine tkc F hc 0 ?_
 refine tkc F hc 2 ?_
 refine rd1 1 (fun K hK => ?_)
 go_simp
 go_at_call 20
 refine (toHall_c (z := z0) hc0 hx0 ((hr0.below F.now.1.1).more F.now.1.1.size) (FitTTs.next hg0 F.now.1.1) hd0 hy0 ((hs0.below F.now.1.1).more F.now.1.1.size)).mono ?_
 rintro e u1 ⟨_, rfl, oma, hb⟩
 obtain ⟨ama, bma, cma, dma, ema, fma, rfl⟩ := oma.shape
 replace F := F.next hb
 go_wp2_with fail
 refine fn hK F ?_
 clear hK K hb
 refine rd1 3 (fun K hK => ?_)
 go_simp
 go_at_call 20
 refine (toHall_c (z := z1) hc1 hx1 ((hr1.below F.now.1.1).more F.now.1.1.size) (FitTTs.next hg1 F.now.1.1) hd1 hy1 ((hs1.below F.now.1.1).more F.now.1.1.size)).mono ?_
 rintro e u2 ⟨_, rfl, omb, hb⟩
 obtain ⟨amb, bmb, cmb, dmb, emb, fmb, rfl⟩ := omb.shape
 replace oma := oma.next hb
 replace F := F.next hb
 go_wp2_with fail
 refine fn hK F ?_
 clear hK K hb
 refine rd1 4 (fun K hK => ?_)
 go_simp
 go_at_call 19
 refine (specHallSameO oma omb hx0 hx1 hS0 hS1 hu0 hu1).mono ?_
 rw [HSB.out]
 rintro e u3 ⟨rfl, hb⟩
 replace F := F.next hb
 go_wp2_with fail
 refine fn hK F ?_
 clear hK K hb oma omb
 refine tkc F hc 5 ?_
 refine wpAnyH_done (by kernel_rfl) ?_ _
 have q0 := hc _ F.now
 go_wp2_with fail
 clear q0
 refine (toHall_c (z := z0) hc0 hx0 ((hr0.below F.now.1.1).more F.now.1.1.size) (FitTTs.next hg0 F.now.1.1) hd0 hy0 ((hs0.below F.now.1.1).more F.now.1.1.size)).mono ?_
 rintro e v1 ⟨_, rfl, omc, hb⟩
 obtain ⟨amc, bmc, cmc, dmc, emc, fmc, rfl⟩ := omc.shape
 replace F := F.next hb
 have hv1 := hb.size
 clear hb
 obtain ⟨V1, eV1, hsV1, bx, hbV⟩ := al1 v1 rfl #[.int .i64 z0, .slice amc bmc cmc, .slice dmc emc fmc] 27
 replace omc := omc.next hbV
 replace F := F.next hbV
 have hv2 := hbV.size
 clear hbV
 replace F := F.ownH omc
 replace F := F.blk bx (by omega)
 clear omc bx
 have hc2 := F.hc fun V h => And.intro (hc V h.1.1) h.2.c3
 have q0 := hc2 _ F.now
 go_wp2_with fail
 clear q0
 refine (toHall_c (z := z1) hc1 hx1 ((hr1.below F.now.1.1.1.1).more F.now.1.1.1.1.size) (FitTTs.next hg1 F.now.1.1.1.1) hd1 hy1 ((hs1.below F.now.1.1.1.1).more F.now.1.1.1.1.size)).mono ?_
 rintro e v2 ⟨_, rfl, omd, hb⟩
 obtain ⟨amd, bmd, cmd, dmd, emd, fmd, rfl⟩ := omd.shape
 replace F := F.next hb
 have hv3 := hb.size
 clear hb
 obtain ⟨V2, eV2, hsV2, by_, hbV⟩ := al1 v2 rfl #[.int .i64 z1, .slice amd bmd cmd, .slice dmd emd fmd] 27
 replace omd := omd.next hbV
 replace F := F.next hbV
 have hv4 := hbV.size
 clear hbV
 replace F := F.ownH omd
 replace F := F.blk by_ (by omega)
 clear omd by_
 have hc3 := F.hc fun V h => And.intro (hc2 V h.1.1) h.2.c3
 have q0 := hc3 _ F.now
 go_wp2_with fail
 clear q0
 refine (implHallSameO F.now.1.1.1.2 F.now.1.2 hx0 hx1 hS0 hS1 hu0 hu1).mono ?_
 rw [HSB.out]
 rintro e v3 ⟨rfl, hb⟩
 replace F := F.next hb
 clear hb
 have q0 := hc3 _ F.now
 go_wp2
 clear q0
 refine reg F fun d6 hd F1 => ?_
 have hy6d := hd.size
 clear F hd; have F := F1; clear F1
 refine tkc F hc3 0 ?_
 refine tkc F hc3 1 ?_
 refine rd1 2 (fun K hK => ?_)
 go_simp
 go_at_call 20
 refine (toHall_c (z := z0) hc0 hx0 ((hr0.below F.now.1.1.1.1.1.1).more F.now.1.1.1.1.1.1.size) (FitTTs.next hg0 F.now.1.1.1.1.1.1) hd0 hy0 ((hs0.below F.now.1.1.1.1.1.1).more F.now.1.1.1.1.1.1.size)).mono ?_
 rintro e x0 ⟨_, rfl, oh0, hb⟩
 obtain ⟨ah0, bh0, ch0, dh0, eh0, fh0, rfl⟩ := oh0.shape
 replace F := F.next hb
 go_wp2_with fail
 refine fn hK F ?_
 clear hK K hb
 refine rd1 3 (fun K hK => ?_)
 go_simp
 go_at_call 8
 refine (eqHall_c F.now.1.1.1.2 oh0 (by omega) hT0).mono ?_
 rintro e y0 ⟨rfl, hb⟩
 replace F := F.next hb
 go_wp2_with fail
 refine fn hK F ?_
 clear hK K hb oh0
 refine tkc F hc3 4 ?_
 refine wpAnyH_done (by kernel_rfl) ?_ _
 have q0 := hc3 _ F.now
 go_wp2
 clear q0
 refine reg F fun d7 hd F1 => ?_
 have hy7d := hd.size
 clear F hd; have F := F1; clear F1
 refine tkc F hc3 0 ?_
 refine tkc F hc3 1 ?_
 refine rd1 2 (fun K hK => ?_)
 go_simp
 go_at_call 20
 refine (toHall_c (z := z1) hc1 hx1 ((hr1.below F.now.1.1.1.1.1.1).more F.now.1.1.1.1.1.1.size) (FitTTs.next hg1 F.now.1.1.1.1.1.1) hd1 hy1 ((hs1.below F.now.1.1.1.1.1.1).more F.now.1.1.1.1.1.1.size)).mono ?_
 rintro e x1 ⟨_, rfl, oh1, hb⟩
 obtain ⟨ah1, bh1, ch1, dh1, eh1, fh1, rfl⟩ := oh1.shape
 replace F := F.next hb
 go_wp2_with fail
 refine fn hK F ?_
 clear hK K hb
 refine rd1 3 (fun K hK => ?_)
 go_simp
 go_at_call 8
 refine (eqHall_c F.now.1.2 oh1 (by omega) hT1).mono ?_
 rintro e y1 ⟨rfl, hb⟩
 replace F := F.next hb
 go_wp2_with fail
 refine fn hK F ?_
 clear hK K hb oh1
 refine tkc F hc3 4 ?_
 refine wpAnyH_done (by kernel_rfl) ?_ _
 have q0 := hc3 _ F.now
 go_wp2
 go_ret
 exact ⟨rfl, F.now.1.1.1.1.1.1⟩

set_option maxRecDepth 100000 in
theorem lifted (os : Os) (started : os.Started) (H : Type) (enc : TypeId × Value → H) :
  ReturnsInHanded {} Try.checked os 5 .any (Rows.fnExactHallSameSpec.pre6 enc Try.prog Try.f5 Rows.fnExactHallSameRow.domain false) (Rows.fnExactHallSameSpec.post enc Try.prog Try.f5 false true false false) := by
 refine returnsInHanded_of_change (C := Try.checked) Whole.own started (by kernel_rfl) Try.func5
  (ChangeSpec.witness6 (enc := enc) (C := Try.checked) false ⟨#[], #[.agg #[.int .i64 0, .slice none 0 0, .slice none 0 0], .agg #[.int .i64 0, .slice none 0 0, .slice none 0 0]], []⟩ 8 (by kernel_rfl) (by kernel_rfl) (by kernel_rfl) (by kernel_rfl)) ?_
 intro W base args ds gs before hval0 hW hcnd _
 have hval : ∀ (j : Nat) t v, Try.f5.params[j]? = some t → args[j]? = some v → Value.okWide Try.prog W .any base t v := hval0
 have hW' := hW
 obtain ⟨p, q, hA0, hV, rfl, hfz, hnd⟩ := hW
 have hA : DataW.TrodAll enc Try.prog W 0 (fun _ => true) true Try.f5.params.toList args.toList ds p := hA0
 rw [Try.params5] at hA hval
 obtain ⟨v0, vs0, d0, ds0, p0, q0, hargs, rfl, rfl, h0, r0⟩ := trodAll_cons hA
 obtain ⟨v1, vs1, d1, ds1, p1, q1, rfl, rfl, rfl, h1, r1⟩ := trodAll_cons r0
 obtain ⟨rfl, rfl, rfl⟩ := trodAll_nil r1
 obtain rfl : args = #[v0, v1] := by cases args; simp_all
 obtain ⟨rfl, rfl⟩ := trodVars_none hV
 have k0 := h0
 have lt0 : ∀ x ∈ p0, x.block < W.heap.size := by obtain ⟨m, hm⟩ := k0; exact DataW.trod_lt m _ _ _ hm
 obtain ⟨z0, A0, c0, l0, C0, m0, rt0, rfl, hf0, hc0, hm0, hr0, hg0, hd0, hn0, hs0⟩ := openArgHall (hval 0 45 v0 rfl rfl) h0
 have k1 := h1
 have lt1 : ∀ x ∈ p1, x.block < W.heap.size := by obtain ⟨m, hm⟩ := k1; exact DataW.trod_lt m _ _ _ hm
 obtain ⟨z1, A1, c1, l1, C1, m1, rt1, rfl, hf1, hc1, hm1, hr1, hg1, hd1, hn1, hs1⟩ := openArgHall (hval 1 45 v1 rfl rfl) h1
 clear hA0 hval0
 refine (walk z0 A0 c0 l0 C0 m0 rt0 z1 A1 c1 l1 C1 m1 rt1 W hf0 hc0 hm0 hr0 hg0 hd0 hn0 hs0 hf1 hc1 hm1 hr1 hg1 hd1 hn1 hs1).mono fun e W' ⟨he, bel⟩ => ?_
 subst he
 exact ⟨_, rfl, _, _, _, [], _, [], hW', trodAll_mk1 (shut_bool Try.underlying4 _), (trodAll_cons_mk (Below.trod Whole.laidOut (by kernel_rfl) (of_decide_eq_true (by kernel_rfl)) k0 bel lt0) (trodAll_cons_mk (Below.trod Whole.laidOut (by kernel_rfl) (of_decide_eq_true (by kernel_rfl)) k1 bel lt1) trodAll_mk0)), rfl, bel.frame _, fun h => by cases h⟩

theorem named : Try.prog.funcNamed Rows.fnExactHallSameRow.func = some 5 := by kernel_rfl
theorem closed : Whole.lawFacts Try.prog 5 Try.f5 Rows.fnExactHallSameSpec Rows.fnExactHallSameRow = true := by kernel_rfl
theorem inst : Try.f5.isInstance Try.prog Rows.fnExactHallSameRow.origin Rows.fnExactHallSameRow.targs := of_decide_eq_true (by kernel_rfl)
theorem wrap : Try.f5.isWrapper Try.prog Rows.fnExactHallSameRow.wrapper Rows.fnExactHallSameRow.mainSum := by
 unfold Func.isWrapper; first | (rw [if_pos (by decide +kernel)]; kernel_rfl) | (rw [if_neg (by decide +kernel)]; exact ⟨rfl, rfl⟩)
theorem over : Rows.fnExactHallSameRow.holds Try.pinned (OpenSpec.ofChange Rows.fnExactHallSameSpec) :=
 OpenClaim.holds_of_wide 5 Try.f5 rfl rfl rfl rfl rfl rfl rfl ⟨rfl, rfl, rfl, rfl, rfl⟩ rfl rfl rfl rfl rfl named Try.func5 (Whole.facts_of closed)
  inst wrap (fun os started H enc _ => lifted os started H enc)

theorem proved : Rows.FnExactHallSameSaid := over
#print axioms proved
end Go.Proofs.Ytheblejlmlfddaa.fnExactHallSame
