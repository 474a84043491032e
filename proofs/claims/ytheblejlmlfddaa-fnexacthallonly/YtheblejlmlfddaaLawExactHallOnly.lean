/- For all lists of what happens, of the law's own type, and all numbers that the law takes (a bounded size), HallOnly of the program answers as the specification's HallOnly, leaves its argument as it was, answers alike a second time, and its answer owns its memory. No conditions. -/
import Derived.Test.YtheblejlmlfddaaRows
import Derived.Test.YtheblejlmlfddaaWhole
import Derived.Test.YtheblejlmlfddaaFlEv
import Derived.Test.YtheblejlmlfddaaHoX
import Derived.WalkKit
import Derived.ProofKit
import Derived.OpenShut
import Derived.ShutString
import Derived.ChangeOld
import Derived.Below
namespace Go.Proofs.Ytheblejlmlfddaa.fnExactHallOnly
open Go.ChangeShapes Go.WideShapes Go.ChangeAt Go.RowKit
open Go.ChangeMaps (open_string shut_string)
set_option linter.unusedVariables false

set_option maxRecDepth 100000 in
set_option maxHeartbeats 1000000 in
theorem walk (A0 : Option Addr) (c0 : Nat) (l0 : List VE) (n1 : Int) (w : World) (hc0 : l0.length ≤ c0) (hm0 : c0 ≤ maxLen) (hf0 : FitVEs l0) (hr0 : RdG w w.heap.size A0 l0) (hn1 : (Lit.int .i64 n1).wf = true) :
  Calls Try.prog 4 #[.slice A0 l0.length c0, .int .i64 n1] w fun e w' => e = .returned (.bool true) ∧ Below w.heap.size w w' := by
 have htl0 := totalVE_len l0
 by_cases ht0 : (totalVE l0 : Int) ≤ 1048576
 rotate_left
 ·
  have H0 := Lib.hid (szR_neg (left := 1048576) (k := totalVE l0) (by omega))
  go_enter Try.func4, Try.ntmps4
  go_wp2_with fail
  refine (szEvS_c A0 c0 l0 1048576 _ hf0 hc0 hm0 (by omega) (by omega) hr0).mono ?_
  rintro e w1 ⟨rfl, hb1⟩
  rw [H0.out]
  have hw_t1 := hb1
  have hs_t1 := hb1.size
  go_wp2
  go_ret
  exact ⟨rfl, hw_t1⟩
 obtain ⟨L0, H0, hL0, hL0x⟩ : ∃ L : Int, Hid (szR 1048576 (totalVE l0) = L) ∧ 0 ≤ L ∧ L ≤ 1048576 := ⟨_, Lib.hid rfl, by rw [szR_pos ht0]; omega, by rw [szR_pos ht0]; omega⟩
 have hlen0 : l0.length ≤ 1048576 := by omega
 clear ht0 htl0
 have hvl0 : (onlyL l0 n1).length ≤ 1048577 := by have := onlyL_len l0 n1; omega
 obtain ⟨vl0, HV0⟩ : ∃ x, Hid (onlyL l0 n1 = x) := ⟨_, Lib.hid rfl⟩
 rw [HV0.out] at hvl0
 have HE0 := Lib.hid (eqVEs_yes (rfl : vl0 = vl0))
 have HA0 := Lib.hid (eqVEs_yes (rfl : l0 = l0))
 go_enter Try.func4, Try.ntmps4
 go_wp2_with fail
 refine (szEvS_c A0 c0 l0 1048576 _ hf0 hc0 hm0 (by omega) (by omega) hr0).mono ?_
 rintro e w1 ⟨rfl, hb1⟩
 rw [H0.out]
 have hw_t1 := hb1
 have hs_t1 := hb1.size
 go_wp2_with fail
 refine (toEvOwn_c A0 c0 l0 _ hc0 hlen0 ((hr0.below hw_t1).more hw_t1.size)).mono ?_
 rintro e w2 ⟨gY0, rfl, Y0_n, ge_Y00, lt_Y00, hb2⟩
 have hw_t2 := below_next hw_t1 hb2
 have hs_t2 := hb2.size
 have ge_Y0 : ∀ g, (Value.slice (some ⟨gY0, 0, none⟩) l0.length l0.length).ownBlock = some g → (w1).heap.size ≤ g := fun g hg => (by have : gY0 = g := Option.some.inj hg; omega)
 have lt_Y0 : ∀ g, (Value.slice (some ⟨gY0, 0, none⟩) l0.length l0.length).ownBlock = some g → g < w2.heap.size := fun g hg => (by have : gY0 = g := Option.some.inj hg; omega)
 clear ge_Y00 lt_Y00
 go_wp2_with fail
 refine (specHallOnlyO n1 Y0_n hlen0).mono ?_
 rw [HV0.out]
 rintro e w3 ⟨VW, rfl, W_n, hb3⟩
 have Y0_t3 := Y0_n.next hb3
 clear Y0_n
 have hw_t3 := below_next hw_t2 hb3
 have hs_t3 := hb3.size
 have ge_W : ∀ g, VW.ownBlock = some g → (w2).heap.size ≤ g := fun g hg => (W_n.block_lt hg).1
 have lt_W : ∀ g, VW.ownBlock = some g → g < w3.heap.size := fun g hg => (W_n.block_lt hg).2
 clear Y0_t3
 go_wp2_with fail
 refine (toEvOwn_c A0 c0 l0 _ hc0 hlen0 ((hr0.below hw_t3).more hw_t3.size)).mono ?_
 rintro e w4 ⟨gX0, rfl, X0_n, ge_X00, lt_X00, hb4⟩
 have W_t4 := W_n.next hb4
 clear W_n
 have hw_t4 := below_next hw_t3 hb4
 have hs_t4 := hb4.size
 have ge_X0 : ∀ g, (Value.slice (some ⟨gX0, 0, none⟩) l0.length l0.length).ownBlock = some g → (w3).heap.size ≤ g := fun g hg => (by have : gX0 = g := Option.some.inj hg; omega)
 have lt_X0 : ∀ g, (Value.slice (some ⟨gX0, 0, none⟩) l0.length l0.length).ownBlock = some g → g < w4.heap.size := fun g hg => (by have : gX0 = g := Option.some.inj hg; omega)
 clear ge_X00 lt_X00
 go_wp2_with fail
 refine (implHallOnlyO n1 X0_n hlen0).mono ?_
 rw [HV0.out]
 rintro e w5 ⟨VG, rfl, G_n, hb5⟩
 have W_t5 := W_t4.next hb5
 clear W_t4
 have X0_t5 := X0_n.next hb5
 clear X0_n
 have hw_t5 := below_next hw_t4 hb5
 have hs_t5 := hb5.size
 have ge_G : ∀ g, VG.ownBlock = some g → (w4).heap.size ≤ g := fun g hg => (G_n.block_lt hg).1
 have lt_G : ∀ g, VG.ownBlock = some g → g < w5.heap.size := fun g hg => (G_n.block_lt hg).2
 go_wp2_with fail
 refine (eqEvOwn_c _ _ vl0 vl0 _ _ _ G_n W_t5 (by omega) (by omega)).mono ?_
 rintro e w6 ⟨rfl, hb6⟩
 rw [HE0.out]
 have W_t6 := W_t5.next hb6
 clear W_t5
 have X0_t6 := X0_t5.next hb6
 clear X0_t5
 have G_t6 := G_n.next hb6
 clear G_n
 have hw_t6 := below_next hw_t5 hb6
 have hs_t6 := hb6.size
 go_wp2_with fail
 refine (toEvOwn_c A0 c0 l0 _ hc0 hlen0 ((hr0.below hw_t6).more hw_t6.size)).mono ?_
 rintro e w7 ⟨gZ0, rfl, Z0_n, ge_Z00, lt_Z00, hb7⟩
 have W_t7 := W_t6.next hb7
 clear W_t6
 have X0_t7 := X0_t6.next hb7
 clear X0_t6
 have G_t7 := G_t6.next hb7
 clear G_t6
 have hw_t7 := below_next hw_t6 hb7
 have hs_t7 := hb7.size
 have ge_Z0 : ∀ g, (Value.slice (some ⟨gZ0, 0, none⟩) l0.length l0.length).ownBlock = some g → (w6).heap.size ≤ g := fun g hg => (by have : gZ0 = g := Option.some.inj hg; omega)
 have lt_Z0 : ∀ g, (Value.slice (some ⟨gZ0, 0, none⟩) l0.length l0.length).ownBlock = some g → g < w7.heap.size := fun g hg => (by have : gZ0 = g := Option.some.inj hg; omega)
 clear ge_Z00 lt_Z00
 go_wp2_with fail
 refine (eqEvOwn_c _ _ l0 l0 _ _ _ X0_t7 Z0_n (by omega) (by omega)).mono ?_
 rintro e w8 ⟨rfl, hb8⟩
 rw [HA0.out]
 have W_t8 := W_t7.next hb8
 clear W_t7
 have X0_t8 := X0_t7.next hb8
 clear X0_t7
 have G_t8 := G_t7.next hb8
 clear G_t7
 have Z0_t8 := Z0_n.next hb8
 clear Z0_n
 have hw_t8 := below_next hw_t7 hb8
 have hs_t8 := hb8.size
 clear Z0_t8
 go_wp2_with fail
 refine (markVE_c _ l0 _ (1) _ X0_t8 (by omega) (by omega)).mono ?_
 rintro e w9 ⟨rfl, hM9, hg9⟩
 have hw_t9 : Below w.heap.size w w9 := belowGrow hw_t8 hg9 (fun k hk => by have := ge_X0 k hk; omega)
 have hs_t9 := hg9.size
 have W_t9 := W_t8.kept hg9 (fun g hg h => by have h1 := ge_X0 g h.symm; have h2 := lt_X0 g h.symm; have h3 := ge_W g hg; have h4 := lt_W g hg; omega)
 clear W_t8
 have G_t9 := G_t8.kept hg9 (fun g hg h => by have h1 := ge_X0 g h.symm; have h2 := lt_X0 g h.symm; have h3 := ge_G g hg; have h4 := lt_G g hg; omega)
 clear G_t8
 clear X0_t8 hg9
 clear hM9
 go_wp2_with fail
 refine (eqEvOwn_c _ _ vl0 vl0 _ _ _ G_t9 W_t9 (by omega) (by omega)).mono ?_
 rintro e w10 ⟨rfl, hb10⟩
 rw [HE0.out]
 have W_t10 := W_t9.next hb10
 clear W_t9
 have G_t10 := G_t9.next hb10
 clear G_t9
 have hw_t10 := below_next hw_t9 hb10
 have hs_t10 := hb10.size
 go_wp2_with fail
 refine (markVE_c _ vl0 _ 1 _ G_t10 (by omega) (by omega)).mono ?_
 rintro e w11 ⟨rfl, hM11, hg11⟩
 have hw_t11 : Below w.heap.size w w11 := belowGrow hw_t10 hg11 (fun k hk => by have := ge_G k hk; omega)
 have hs_t11 := hg11.size
 have W_t11 := W_t10.kept hg11 (fun g hg h => by have h1 := ge_G g h.symm; have h2 := lt_G g h.symm; have h3 := ge_W g hg; have h4 := lt_W g hg; omega)
 clear W_t10
 clear G_t10 hg11
 go_wp2_with fail
 refine (heldVE_c _ vl0.length _ 1 _ hM11 (by omega) (by omega)).mono ?_
 rintro e w12 ⟨rfl, hb12⟩
 have W_t12 := W_t11.next hb12
 clear W_t11
 have G_t12 := hM11.next hb12
 clear hM11
 have hw_t12 := below_next hw_t11 hb12
 have hs_t12 := hb12.size
 go_wp2_with fail
 refine (toEvOwn_c A0 c0 l0 _ hc0 hlen0 ((hr0.below hw_t12).more hw_t12.size)).mono ?_
 rintro e w13 ⟨gU0, rfl, U0_n, ge_U00, lt_U00, hb13⟩
 have W_t13 := W_t12.next hb13
 clear W_t12
 have G_t13 := G_t12.next hb13
 clear G_t12
 have hw_t13 := below_next hw_t12 hb13
 have hs_t13 := hb13.size
 have ge_U0 : ∀ g, (Value.slice (some ⟨gU0, 0, none⟩) l0.length l0.length).ownBlock = some g → (w12).heap.size ≤ g := fun g hg => (by have : gU0 = g := Option.some.inj hg; omega)
 have lt_U0 : ∀ g, (Value.slice (some ⟨gU0, 0, none⟩) l0.length l0.length).ownBlock = some g → g < w13.heap.size := fun g hg => (by have : gU0 = g := Option.some.inj hg; omega)
 clear ge_U00 lt_U00
 go_wp2_with fail
 refine (implHallOnlyO n1 U0_n hlen0).mono ?_
 rw [HV0.out]
 rintro e w14 ⟨VHh, rfl, Hh_n, hb14⟩
 have W_t14 := W_t13.next hb14
 clear W_t13
 have G_t14 := G_t13.next hb14
 clear G_t13
 have U0_t14 := U0_n.next hb14
 clear U0_n
 have hw_t14 := below_next hw_t13 hb14
 have hs_t14 := hb14.size
 have ge_Hh : ∀ g, VHh.ownBlock = some g → (w13).heap.size ≤ g := fun g hg => (Hh_n.block_lt hg).1
 have lt_Hh : ∀ g, VHh.ownBlock = some g → g < w14.heap.size := fun g hg => (Hh_n.block_lt hg).2
 clear U0_t14
 go_wp2_with fail
 refine (eqEvOwn_c _ _ vl0 vl0 _ _ _ Hh_n W_t14 (by omega) (by omega)).mono ?_
 rintro e w15 ⟨rfl, hb15⟩
 rw [HE0.out]
 have W_t15 := W_t14.next hb15
 clear W_t14
 have G_t15 := G_t14.next hb15
 clear G_t14
 have Hh_t15 := Hh_n.next hb15
 clear Hh_n
 have hw_t15 := below_next hw_t14 hb15
 have hs_t15 := hb15.size
 go_wp2_with fail
 refine (heldVE_c _ vl0.length _ 1 _ G_t15 (by omega) (by omega)).mono ?_
 rintro e w16 ⟨rfl, hb16⟩
 have W_t16 := W_t15.next hb16
 clear W_t15
 have G_t16 := G_t15.next hb16
 clear G_t15
 have Hh_t16 := Hh_t15.next hb16
 clear Hh_t15
 have hw_t16 := below_next hw_t15 hb16
 have hs_t16 := hb16.size
 go_wp2
 go_ret
 exact ⟨rfl, hw_t16⟩

set_option maxRecDepth 100000 in
theorem lifted (os : Os) (started : os.Started) (H : Type) (enc : TypeId × Value → H) :
  ReturnsInHanded {} Try.checked os 4 .any (Rows.fnExactHallOnlySpec.pre6 enc Try.prog Try.f4 Rows.fnExactHallOnlyRow.domain false) (Rows.fnExactHallOnlySpec.post enc Try.prog Try.f4 false true false false) := by
 refine returnsInHanded_of_change (C := Try.checked) Whole.own started (by kernel_rfl) Try.func4
  (ChangeSpec.witness6 (enc := enc) (C := Try.checked) false ⟨#[], #[.slice none 0 0, .int .i64 0], []⟩ 8 (by kernel_rfl) (by kernel_rfl) (by kernel_rfl) (by kernel_rfl)) ?_
 intro W base args ds gs before hval0 hW hcnd _
 have hval : ∀ (j : Nat) t v, Try.f4.params[j]? = some t → args[j]? = some v → Value.okWide Try.prog W .any base t v := hval0
 have hW' := hW
 obtain ⟨p, q, hA0, hV, rfl, hfz, hnd⟩ := hW
 have hA : DataW.TrodAll enc Try.prog W 0 (fun _ => true) true Try.f4.params.toList args.toList ds p := hA0
 rw [Try.params4] at hA hval
 obtain ⟨v0, vs0, d0, ds0, p0, q0, hargs, rfl, rfl, h0, r0⟩ := trodAll_cons hA
 obtain ⟨v1, vs1, d1, ds1, p1, q1, rfl, rfl, rfl, h1, r1⟩ := trodAll_cons r0
 obtain ⟨rfl, rfl, rfl⟩ := trodAll_nil r1
 obtain rfl : args = #[v0, v1] := by cases args; simp_all
 obtain ⟨rfl, rfl⟩ := trodVars_none hV
 have k0 := h0
 have lt0 : ∀ x ∈ p0, x.block < W.heap.size := by obtain ⟨m, hm⟩ := k0; exact DataW.trod_lt m _ _ _ hm
 obtain ⟨A0, c0, l0, rfl, hc0, hm0, hf0, hr0⟩ := openArgEv (hval 0 32 v0 rfl rfl) h0
 obtain ⟨n1, rfl, rfl, rfl, hn1⟩ := open_int Try.underlying3 (hval 1 3 v1 rfl rfl) h1
 clear hA0 hval0
 refine (walk A0 c0 l0 n1 W hc0 hm0 hf0 hr0 hn1).mono fun e W' ⟨he, bel⟩ => ?_
 subst he
 exact ⟨_, rfl, _, _, _, [], _, [], hW', trodAll_mk1 (shut_bool Try.underlying4 _), (trodAll_cons_mk (Below.trod Whole.laidOut (by kernel_rfl) (of_decide_eq_true (by kernel_rfl)) k0 bel lt0) (trodAll_cons_mk (shut_int Try.underlying3 hn1) trodAll_mk0)), rfl, bel.frame _, fun h => by cases h⟩

theorem named : Try.prog.funcNamed Rows.fnExactHallOnlyRow.func = some 4 := by kernel_rfl
theorem closed : Whole.lawFacts Try.prog 4 Try.f4 Rows.fnExactHallOnlySpec Rows.fnExactHallOnlyRow = true := by kernel_rfl
theorem inst : Try.f4.isInstance Try.prog Rows.fnExactHallOnlyRow.origin Rows.fnExactHallOnlyRow.targs := of_decide_eq_true (by kernel_rfl)
theorem wrap : Try.f4.isWrapper Try.prog Rows.fnExactHallOnlyRow.wrapper Rows.fnExactHallOnlyRow.mainSum := by
 unfold Func.isWrapper; first | (rw [if_pos (by decide +kernel)]; kernel_rfl) | (rw [if_neg (by decide +kernel)]; exact ⟨rfl, rfl⟩)
theorem over : Rows.fnExactHallOnlyRow.holds Try.pinned (OpenSpec.ofChange Rows.fnExactHallOnlySpec) :=
 OpenClaim.holds_of_wide 4 Try.f4 rfl rfl rfl rfl rfl rfl rfl ⟨rfl, rfl, rfl, rfl, rfl⟩ rfl rfl rfl rfl rfl named Try.func4 (Whole.facts_of closed)
  inst wrap (fun os started H enc _ => lifted os started H enc)

theorem proved : Rows.FnExactHallOnlySaid := over
#print axioms proved
end Go.Proofs.Ytheblejlmlfddaa.fnExactHallOnly
