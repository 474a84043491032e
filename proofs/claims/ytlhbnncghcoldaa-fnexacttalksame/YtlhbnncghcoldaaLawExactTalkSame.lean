/- For all pairs of those who talk, of the law's own type, that the law takes (a bounded size), TalkSame of the program answers as the specification's TalkSame, and leaves its arguments as they were. No conditions. -/
import Derived.Test.YtlhbnncghcoldaaRows
import Derived.Test.YtlhbnncghcoldaaWhole
import Derived.Test.YtlhbnncghcoldaaTkS
import Derived.WalkKit
import Derived.ProofKit
import Derived.OpenShut
import Derived.ShutString
import Derived.ChangeOld
import Derived.Below
namespace Go.Proofs.Ytlhbnncghcoldaa.fnExactTalkSame
open Go.ChangeShapes Go.WideShapes Go.ChangeAt Go.RowKit
open Go.ChangeMaps (open_string shut_string)
set_option linter.unusedVariables false

set_option maxRecDepth 100000 in
set_option maxHeartbeats 1000000 in
theorem walk (t0 : Tk) (A0 B0 : Option Addr) (c0 e0 : Nat) (t1 : Tk) (A1 B1 : Option Addr) (c1 e1 : Nat) (w : World) (hf0 : FitTk t0) (hc0 : t0.ws.length ≤ c0) (hm0 : c0 ≤ maxLen) (hd0 : t0.ns.length ≤ e0) (hn0 : e0 ≤ maxLen) (hr0 : RdG w w.heap.size A0 t0.ws) (hs0 : RdG w w.heap.size B0 t0.ns) (hf1 : FitTk t1) (hc1 : t1.ws.length ≤ c1) (hm1 : c1 ≤ maxLen) (hd1 : t1.ns.length ≤ e1) (hn1 : e1 ≤ maxLen) (hr1 : RdG w w.heap.size A1 t1.ws) (hs1 : RdG w w.heap.size B1 t1.ns) :
  Calls Try.prog 3 #[agT t0 (.slice A0 t0.ws.length c0) (.slice B0 t0.ns.length e0), agT t1 (.slice A1 t1.ws.length c1) (.slice B1 t1.ns.length e1)] w fun e w' => e = .returned (.bool true) ∧ Below w.heap.size w w' := by
 unfold agT
 have htx0 := totalX_len t0.ws
 have htn0 := totalN5_len t0.ns
 by_cases ht0 : ((totalX t0.ws + totalN5 t0.ns + t0.inn.size : Nat) : Int) ≤ 1048576
 rotate_left
 ·
  have H0 := Lib.hid (szR_neg (left := 1048576) (k := totalX t0.ws + totalN5 t0.ns + t0.inn.size) (by omega))
  obtain ⟨W1, ew1, hv1w, P1, hb1⟩ := al1 w rfl #[.bool t0.on, .bool t0.bad, .int .i64 t0.a, .slice A0 t0.ws.length c0, .slice B0 t0.ns.length e0, .bool t0.sk, .bool t0.gn, .string t0.inn] 29
  obtain ⟨W2, ew2, hv2w, R1, hb2⟩ := al1 W1 hv1w #[.bool t1.on, .bool t1.bad, .int .i64 t1.a, .slice A1 t1.ws.length c1, .slice B1 t1.ns.length e1, .bool t1.sk, .bool t1.gn, .string t1.inn] 29
  have F := ((Fr.bel (p := W2.heap.size) (q := W2.heap.size) (below_next hb1 hb2) (by omega)).blk (P1.next hb2) (by omega)).blk R1 (by omega)
  clear P1 R1 hb1 hb2
  have hc := F.hc fun V h => And.intro h.1.2.c8 h.2.c8
  go_enter Try.func3, Try.ntmps3
  have q0 := hc _ F.now
  go_wp2_with fail
  clear q0
  refine (szTalk_c (t := t0) 1048576 hf0 hc0 hm0 hd0 hn0 (by omega) (by omega) ((hr0.below F.now.1.1).more F.now.1.1.size) ((hs0.below F.now.1.1).more F.now.1.1.size)).mono ?_
  rintro e w1 ⟨rfl, hb⟩
  rw [H0.out]
  replace F := F.next hb
  have hz0 := hb.size
  clear hb
  have q0 := hc _ F.now
  go_wp2
  go_ret
  exact ⟨rfl, F.now.1.1⟩
 obtain ⟨L0, H0, hL0, hL0x⟩ : ∃ L : Int, Hid (szR 1048576 (totalX t0.ws + totalN5 t0.ns + t0.inn.size) = L) ∧ 0 ≤ L ∧ L ≤ 1048576 := ⟨_, Lib.hid rfl, by rw [szR_pos ht0]; omega, by rw [szR_pos ht0]; omega⟩
 have hx0 : t0.ws.length ≤ 1048576 := by omega
 have hy0 : t0.ns.length ≤ 1048576 := by omega
 clear ht0 htx0 htn0
 have htx1 := totalX_len t1.ws
 have htn1 := totalN5_len t1.ns
 by_cases ht1 : ((totalX t1.ws + totalN5 t1.ns + t1.inn.size : Nat) : Int) ≤ L0
 rotate_left
 ·
  have H1 := Lib.hid (szR_neg (left := L0) (k := totalX t1.ws + totalN5 t1.ns + t1.inn.size) (by omega))
  obtain ⟨W1, ew1, hv1w, P1, hb1⟩ := al1 w rfl #[.bool t0.on, .bool t0.bad, .int .i64 t0.a, .slice A0 t0.ws.length c0, .slice B0 t0.ns.length e0, .bool t0.sk, .bool t0.gn, .string t0.inn] 29
  obtain ⟨W2, ew2, hv2w, R1, hb2⟩ := al1 W1 hv1w #[.bool t1.on, .bool t1.bad, .int .i64 t1.a, .slice A1 t1.ws.length c1, .slice B1 t1.ns.length e1, .bool t1.sk, .bool t1.gn, .string t1.inn] 29
  have F := ((Fr.bel (p := W2.heap.size) (q := W2.heap.size) (below_next hb1 hb2) (by omega)).blk (P1.next hb2) (by omega)).blk R1 (by omega)
  clear P1 R1 hb1 hb2
  have hc := F.hc fun V h => And.intro h.1.2.c8 h.2.c8
  go_enter Try.func3, Try.ntmps3
  have q0 := hc _ F.now
  go_wp2_with fail
  clear q0
  refine (szTalk_c (t := t0) 1048576 hf0 hc0 hm0 hd0 hn0 (by omega) (by omega) ((hr0.below F.now.1.1).more F.now.1.1.size) ((hs0.below F.now.1.1).more F.now.1.1.size)).mono ?_
  rintro e w1 ⟨rfl, hb⟩
  rw [H0.out]
  replace F := F.next hb
  have hz0 := hb.size
  clear hb
  have q0 := hc _ F.now
  go_wp2_with fail
  clear q0
  refine (szTalk_c (t := t1) L0 hf1 hc1 hm1 hd1 hn1 (by omega) (by omega) ((hr1.below F.now.1.1).more F.now.1.1.size) ((hs1.below F.now.1.1).more F.now.1.1.size)).mono ?_
  rintro e w2 ⟨rfl, hb⟩
  rw [H1.out]
  replace F := F.next hb
  have hz1 := hb.size
  clear hb
  have q0 := hc _ F.now
  go_wp2
  go_ret
  exact ⟨rfl, F.now.1.1⟩
 obtain ⟨L1, H1, hL1, hL1x⟩ : ∃ L : Int, Hid (szR L0 (totalX t1.ws + totalN5 t1.ns + t1.inn.size) = L) ∧ 0 ≤ L ∧ L ≤ 1048576 := ⟨_, Lib.hid rfl, by rw [szR_pos ht1]; omega, by rw [szR_pos ht1]; omega⟩
 have hx1 : t1.ws.length ≤ 1048576 := by omega
 have hy1 : t1.ns.length ≤ 1048576 := by omega
 clear ht1 htx1 htn1
 obtain ⟨SB, HSB⟩ : ∃ SB, Hid (sameT t0 t1 = SB) := ⟨_, Lib.hid rfl⟩
 have hSB : (SB != SB) = false := by cases SB <;> rfl
 obtain ⟨W1, ew1, hv1w, P1, hb1⟩ := al1 w rfl #[.bool t0.on, .bool t0.bad, .int .i64 t0.a, .slice A0 t0.ws.length c0, .slice B0 t0.ns.length e0, .bool t0.sk, .bool t0.gn, .string t0.inn] 29
 obtain ⟨W2, ew2, hv2w, R1, hb2⟩ := al1 W1 hv1w #[.bool t1.on, .bool t1.bad, .int .i64 t1.a, .slice A1 t1.ws.length c1, .slice B1 t1.ns.length e1, .bool t1.sk, .bool t1.gn, .string t1.inn] 29
 have F := ((Fr.bel (p := W2.heap.size) (q := W2.heap.size) (below_next hb1 hb2) (by omega)).blk (P1.next hb2) (by omega)).blk R1 (by omega)
 clear P1 R1 hb1 hb2
 have hc := F.hc fun V h => And.intro h.1.2.c8 h.2.c8
 go_enter Try.func3, Try.ntmps3
 have q0 := hc _ F.now
 go_wp2_with fail
 clear q0
 refine (szTalk_c (t := t0) 1048576 hf0 hc0 hm0 hd0 hn0 (by omega) (by omega) ((hr0.below F.now.1.1).more F.now.1.1.size) ((hs0.below F.now.1.1).more F.now.1.1.size)).mono ?_
 rintro e w1 ⟨rfl, hb⟩
 rw [H0.out]
 replace F := F.next hb
 have hz0 := hb.size
 clear hb
 have q0 := hc _ F.now
 go_wp2_with fail
 clear q0
 refine (szTalk_c (t := t1) L0 hf1 hc1 hm1 hd1 hn1 (by omega) (by omega) ((hr1.below F.now.1.1).more F.now.1.1.size) ((hs1.below F.now.1.1).more F.now.1.1.size)).mono ?_
 rintro e w2 ⟨rfl, hb⟩
 rw [H1.out]
 replace F := F.next hb
 have hz1 := hb.size
 clear hb
 have q0 := hc _ F.now
 go_wp2
 clear q0
 refine reg F fun d5 hd F1 => ?_
 have hy5d := hd.size
 clear F hd; have F := F1; clear F1
 refine tkc F hc 0 ?_
 refine tkc F hc 2 ?_
 refine rd1 1 (fun K hK => ?_)
 go_simp
 go_at_call 6
 refine (toTalk_c (t := t0) hc0 hx0 hd0 hy0 ((hr0.below F.now.1.1).more F.now.1.1.size) ((hs0.below F.now.1.1).more F.now.1.1.size)).mono ?_
 rintro e u1 ⟨ma, mb, rfl, oma, omb, lma, -, lmb, -, hb⟩
 replace F := F.next hb
 go_wp2_with fail
 refine fn hK F ?_
 clear hK K hb
 refine rd1 3 (fun K hK => ?_)
 go_simp
 go_at_call 6
 refine (toTalk_c (t := t1) hc1 hx1 hd1 hy1 ((hr1.below F.now.1.1).more F.now.1.1.size) ((hs1.below F.now.1.1).more F.now.1.1.size)).mono ?_
 rintro e u2 ⟨mc, md, rfl, omc, omd, lmc, -, lmd, -, hb⟩
 replace oma := oma.next hb
 replace omb := omb.next hb
 replace F := F.next hb
 go_wp2_with fail
 refine fn hK F ?_
 clear hK K hb
 refine rd1 4 (fun K hK => ?_)
 go_simp
 go_at_call 5
 refine (specTalkSameO oma omc omb omd (by omega) (by omega) (by omega) (by omega)).mono ?_
 rw [HSB.out]
 rintro e u3 ⟨rfl, hb⟩
 replace F := F.next hb
 go_wp2_with fail
 refine fn hK F ?_
 clear hK K hb oma omb omc omd lma lmb lmc lmd
 refine tkc F hc 5 ?_
 refine wpAnyH_done (by kernel_rfl) ?_ _
 have q0 := hc _ F.now
 go_wp2_with fail
 clear q0
 refine (toTalk_c (t := t0) hc0 hx0 hd0 hy0 ((hr0.below F.now.1.1).more F.now.1.1.size) ((hs0.below F.now.1.1).more F.now.1.1.size)).mono ?_
 rintro e v1 ⟨ma, mb, rfl, oma, omb, lma, -, lmb, -, hb⟩
 unfold agT
 replace F := F.next hb
 have hv1 := hb.size
 clear hb
 obtain ⟨V1, eV1, hsV1, bx, hbV⟩ := al1 v1 rfl #[.bool t0.on, .bool t0.bad, .int .i64 t0.a, .slice (some ⟨ma, 0, none⟩) t0.ws.length t0.ws.length, .slice (some ⟨mb, 0, none⟩) t0.ns.length t0.ns.length, .bool t0.sk, .bool t0.gn, .string t0.inn] 39
 replace oma := oma.next hbV
 replace omb := omb.next hbV
 replace F := F.next hbV
 have hv2 := hbV.size
 clear hbV
 have hF1 := F.now.1.1.size
 replace F := F.neG oma (fun g h => by omega)
 replace F := F.neG omb (fun g h => by omega)
 replace F := F.blk bx (by omega)
 clear oma omb bx
 have hc2 := F.hc fun V h => And.intro (hc V h.1.1.1) h.2.c8
 have q0 := hc2 _ F.now
 go_wp2_with fail
 clear q0
 refine (toTalk_c (t := t1) hc1 hx1 hd1 hy1 ((hr1.below F.now.1.1.1.1.1).more F.now.1.1.1.1.1.size) ((hs1.below F.now.1.1.1.1.1).more F.now.1.1.1.1.1.size)).mono ?_
 rintro e v2 ⟨mc, md, rfl, omc, omd, lmc, -, lmd, -, hb⟩
 unfold agT
 replace F := F.next hb
 have hv3 := hb.size
 clear hb
 obtain ⟨V2, eV2, hsV2, by_, hbV⟩ := al1 v2 rfl #[.bool t1.on, .bool t1.bad, .int .i64 t1.a, .slice (some ⟨mc, 0, none⟩) t1.ws.length t1.ws.length, .slice (some ⟨md, 0, none⟩) t1.ns.length t1.ns.length, .bool t1.sk, .bool t1.gn, .string t1.inn] 39
 replace omc := omc.next hbV
 replace omd := omd.next hbV
 replace F := F.next hbV
 have hv4 := hbV.size
 clear hbV
 replace F := F.neG omc (fun g h => by omega)
 replace F := F.neG omd (fun g h => by omega)
 replace F := F.blk by_ (by omega)
 clear omc omd by_
 have hc3 := F.hc fun V h => And.intro (hc2 V h.1.1.1) h.2.c8
 have q0 := hc3 _ F.now
 go_wp2_with fail
 clear q0
 refine (implTalkSameO (t := t0) (t' := t1) F.now.1.1.1.1.1.2 F.now.1.1.2 F.now.1.1.1.1.2 F.now.1.2 (by omega) (by omega) (by omega) (by omega)).mono ?_
 rw [HSB.out]
 rintro e v3 ⟨rfl, hb⟩
 replace F := F.next hb
 clear hb
 have q0 := hc3 _ F.now
 go_wp2
 clear q0
 refine reg F fun d6 hd F1 => ?_
 have hy6d := hd.size
 clear F hd; have F := F1; clear F1
 refine tkc F hc3 0 ?_
 refine tkc F hc3 1 ?_
 refine rd1 2 (fun K hK => ?_)
 go_simp
 go_at_call 6
 refine (toTalk_c (t := t0) hc0 hx0 hd0 hy0 ((hr0.below F.now.1.1.1.1.1.1.1.1).more F.now.1.1.1.1.1.1.1.1.size) ((hs0.below F.now.1.1.1.1.1.1.1.1).more F.now.1.1.1.1.1.1.1.1.size)).mono ?_
 rintro e x0 ⟨h0a, h0b, rfl, oh0a, oh0b, lh0a, -, lh0b, -, hb⟩
 replace F := F.next hb
 go_wp2_with fail
 refine fn hK F ?_
 clear hK K hb
 refine rd1 3 (fun K hK => ?_)
 go_simp
 go_at_call 8
 refine (eqTalk_c (t := t0) F.now.1.1.1.1.1.2 oh0a F.now.1.1.1.1.2 oh0b (by omega) (by omega)).mono ?_
 rintro e y0 ⟨rfl, hb⟩
 replace F := F.next hb
 go_wp2_with fail
 refine fn hK F ?_
 clear hK K hb oh0a oh0b lh0a lh0b
 refine tkc F hc3 4 ?_
 refine wpAnyH_done (by kernel_rfl) ?_ _
 have q0 := hc3 _ F.now
 go_wp2
 clear q0
 refine reg F fun d7 hd F1 => ?_
 have hy7d := hd.size
 clear F hd; have F := F1; clear F1
 refine tkc F hc3 0 ?_
 refine tkc F hc3 1 ?_
 refine rd1 2 (fun K hK => ?_)
 go_simp
 go_at_call 6
 refine (toTalk_c (t := t1) hc1 hx1 hd1 hy1 ((hr1.below F.now.1.1.1.1.1.1.1.1).more F.now.1.1.1.1.1.1.1.1.size) ((hs1.below F.now.1.1.1.1.1.1.1.1).more F.now.1.1.1.1.1.1.1.1.size)).mono ?_
 rintro e x1 ⟨h1a, h1b, rfl, oh1a, oh1b, lh1a, -, lh1b, -, hb⟩
 replace F := F.next hb
 go_wp2_with fail
 refine fn hK F ?_
 clear hK K hb
 refine rd1 3 (fun K hK => ?_)
 go_simp
 go_at_call 8
 refine (eqTalk_c (t := t1) F.now.1.1.2 oh1a F.now.1.2 oh1b (by omega) (by omega)).mono ?_
 rintro e y1 ⟨rfl, hb⟩
 replace F := F.next hb
 go_wp2_with fail
 refine fn hK F ?_
 clear hK K hb oh1a oh1b lh1a lh1b
 refine tkc F hc3 4 ?_
 refine wpAnyH_done (by kernel_rfl) ?_ _
 have q0 := hc3 _ F.now
 go_wp2
 go_ret
 exact ⟨rfl, F.now.1.1.1.1.1.1.1.1⟩

set_option maxRecDepth 100000 in
theorem lifted (os : Os) (started : os.Started) (H : Type) (enc : TypeId × Value → H) :
  ReturnsInHanded {} Try.checked os 3 .any (Rows.fnExactTalkSameSpec.pre6 enc Try.prog Try.f3 Rows.fnExactTalkSameRow.domain false) (Rows.fnExactTalkSameSpec.post enc Try.prog Try.f3 false true false false) := by
 refine returnsInHanded_of_change (C := Try.checked) Whole.own started (by kernel_rfl) Try.func3
  (ChangeSpec.witness6 (enc := enc) (C := Try.checked) false ⟨#[], #[.agg #[.bool false, .bool false, .int .i64 0, .slice none 0 0, .slice none 0 0, .bool false, .bool false, .string ByteArray.empty], .agg #[.bool false, .bool false, .int .i64 0, .slice none 0 0, .slice none 0 0, .bool false, .bool false, .string ByteArray.empty]], []⟩ 8 (by kernel_rfl) (by kernel_rfl) (by kernel_rfl) (by kernel_rfl)) ?_
 intro W base args ds gs before hval0 hW hcnd _
 have hval : ∀ (j : Nat) t v, Try.f3.params[j]? = some t → args[j]? = some v → Value.okWide Try.prog W .any base t v := hval0
 have hW' := hW
 obtain ⟨p, q, hA0, hV, rfl, hfz, hnd⟩ := hW
 have hA : DataW.TrodAll enc Try.prog W 0 (fun _ => true) true Try.f3.params.toList args.toList ds p := hA0
 rw [Try.params3] at hA hval
 obtain ⟨v0, vs0, d0, ds0, p0, q0, hargs, rfl, rfl, h0, r0⟩ := trodAll_cons hA
 obtain ⟨v1, vs1, d1, ds1, p1, q1, rfl, rfl, rfl, h1, r1⟩ := trodAll_cons r0
 obtain ⟨rfl, rfl, rfl⟩ := trodAll_nil r1
 obtain rfl : args = #[v0, v1] := by cases args; simp_all
 obtain ⟨rfl, rfl⟩ := trodVars_none hV
 have k0 := h0
 have lt0 : ∀ x ∈ p0, x.block < W.heap.size := by obtain ⟨m, hm⟩ := k0; exact DataW.trod_lt m _ _ _ hm
 obtain ⟨t0, A0, c0, B0, e0, rfl, hf0, hc0, hm0, hd0, hn0, hr0, hs0⟩ := openArgTalk (hval 0 29 v0 rfl rfl) h0
 have k1 := h1
 have lt1 : ∀ x ∈ p1, x.block < W.heap.size := by obtain ⟨m, hm⟩ := k1; exact DataW.trod_lt m _ _ _ hm
 obtain ⟨t1, A1, c1, B1, e1, rfl, hf1, hc1, hm1, hd1, hn1, hr1, hs1⟩ := openArgTalk (hval 1 29 v1 rfl rfl) h1
 clear hA0 hval0
 refine (walk t0 A0 B0 c0 e0 t1 A1 B1 c1 e1 W hf0 hc0 hm0 hd0 hn0 hr0 hs0 hf1 hc1 hm1 hd1 hn1 hr1 hs1).mono fun e W' ⟨he, bel⟩ => ?_
 subst he
 exact ⟨_, rfl, _, _, _, [], _, [], hW', trodAll_mk1 (shut_bool Try.underlying4 _), (trodAll_cons_mk (Below.trod Whole.laidOut (by kernel_rfl) (of_decide_eq_true (by kernel_rfl)) k0 bel lt0) (trodAll_cons_mk (Below.trod Whole.laidOut (by kernel_rfl) (of_decide_eq_true (by kernel_rfl)) k1 bel lt1) trodAll_mk0)), rfl, bel.frame _, fun h => by cases h⟩

theorem named : Try.prog.funcNamed Rows.fnExactTalkSameRow.func = some 3 := by kernel_rfl
theorem closed : Whole.lawFacts Try.prog 3 Try.f3 Rows.fnExactTalkSameSpec Rows.fnExactTalkSameRow = true := by kernel_rfl
theorem inst : Try.f3.isInstance Try.prog Rows.fnExactTalkSameRow.origin Rows.fnExactTalkSameRow.targs := of_decide_eq_true (by kernel_rfl)
theorem wrap : Try.f3.isWrapper Try.prog Rows.fnExactTalkSameRow.wrapper Rows.fnExactTalkSameRow.mainSum := by
 unfold Func.isWrapper; first | (rw [if_pos (by decide +kernel)]; kernel_rfl) | (rw [if_neg (by decide +kernel)]; exact ⟨rfl, rfl⟩)
theorem over : Rows.fnExactTalkSameRow.holds Try.pinned (OpenSpec.ofChange Rows.fnExactTalkSameSpec) :=
 OpenClaim.holds_of_wide 3 Try.f3 rfl rfl rfl rfl rfl rfl rfl ⟨rfl, rfl, rfl, rfl, rfl⟩ rfl rfl rfl rfl rfl named Try.func3 (Whole.facts_of closed)
  inst wrap (fun os started H enc _ => lifted os started H enc)

theorem proved : Rows.FnExactTalkSameSaid := over
#print axioms proved
end Go.Proofs.Ytlhbnncghcoldaa.fnExactTalkSame
