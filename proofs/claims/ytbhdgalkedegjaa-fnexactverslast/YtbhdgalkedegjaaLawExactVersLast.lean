/- The law FnExactVersLast: for every history and every text the program's VersLast answers as the model's VersLast and writes into no argument: for every input the call returns true, and the arguments read afterwards as before. No conditions. -/
import Derived.Test.YtbhdgalkedegjaaRows
import Derived.Test.YtbhdgalkedegjaaWhole
import Derived.Test.YtbhdgalkedegjaaArVers
import Derived.Test.YtbhdgalkedegjaaC2j
import Derived.Test.YtbhdgalkedegjaaLw
import Derived.Test.YtbhdgalkedegjaaRg
import Derived.WalkKit
import Derived.ProofKit
import Derived.OpenShut
import Derived.ShutString
import Derived.ChangeOld
import Derived.Below
namespace Go.Proofs.Ytbhdgalkedegjaa.fnExactVersLast
open Go.ChangeShapes Go.WideShapes Go.ChangeAt Go.RowKit
open Go.ChangeMaps (open_string shut_string)
set_option linter.unusedVariables false

set_option maxRecDepth 100000 in
set_option maxHeartbeats 1000000 in
theorem walk (z0 : Int) (A0 : Option Addr) (c0 : Nat) (l0 : List V) (s1 : ByteArray) (w : World) (hz0 : FitI z0) (hc0 : l0.length ≤ c0) (hm0 : c0 ≤ maxLen) (hf0 : FitVs l0) (hr0 : RdG w w.heap.size A0 l0) (hs1 : s1.size ≤ maxLen) :
    Calls Try.prog 5 #[.agg #[.int .i64 z0, .slice A0 l0.length c0], .string s1] w fun e w' => e = .returned (.bool true) ∧ Below w.heap.size w w' := by
  by_cases hk_s1 : (1048576 : Int) < (s1.size : Int)
  · go_enter Try.func5, Try.ntmps5
    go_wp2
    go_ret
    exact ⟨rfl, (by (repeat (first | exact Below.refl _ _ | (refine Below.alloc ?_ (by simp <;> omega) _))))⟩
  have htl0 := totalV_len l0
  by_cases ht0 : (totalV l0 : Int) ≤ 1048576
  rotate_left
  · have H0 := Lib.hid (szR_neg (left := 1048576) (k := totalV l0) (by omega))
    go_enter Try.func5, Try.ntmps5
    have hb_t1 := below_alloc (Below.refl _ w) (.cells #[.int .i64 z0, .slice A0 l0.length c0] 24)
    have B0_t1 := blkA w #[.int .i64 z0, .slice A0 l0.length c0] 24
    have hz_t1 : (w.alloc (.cells #[.int .i64 z0, .slice A0 l0.length c0] 24)).heap.size = w.heap.size + 1 := World.size_alloc _ _
    have hw_t2 := hb_t1
    have hs_t2 := hb_t1.size
    have qB00 : (w.alloc (.cells #[.int .i64 z0, .slice A0 l0.length c0] 24)).cell? ⟨w.heap.size, 0, none⟩ = some (.int .i64 z0) := by rw [B0_t1.cell]; rfl
    have qB01 : (w.alloc (.cells #[.int .i64 z0, .slice A0 l0.length c0] 24)).cell? ⟨w.heap.size, 1, none⟩ = some (.slice A0 l0.length c0) := by rw [B0_t1.cell]; rfl
    go_wp2_with fail
    clear qB00 qB01
    refine (szVers_c z0 A0 c0 l0 1048576 _ hf0 hc0 hm0 (by omega) (by omega) ((hr0.below hw_t2).more hw_t2.size)).mono ?_
    rintro e w1 ⟨rfl, hb1⟩
    rw [H0.out]
    have B0_t3 := B0_t1.next hb1
    clear B0_t1
    have hw_t3 := below_next hw_t2 hb1
    have hs_t3 := hb1.size
    go_wp2
    go_ret
    exact ⟨rfl, hw_t3⟩
  obtain ⟨L0, H0, hL0, hL0x⟩ : ∃ L : Int, Hid (szR 1048576 (totalV l0) = L) ∧ 0 ≤ L ∧ L ≤ 1048576 := ⟨_, Lib.hid rfl, by rw [szR_pos ht0]; omega, by rw [szR_pos ht0]; omega⟩
  have hlen0 : l0.length ≤ 1048576 := by omega
  clear ht0 htl0
  obtain ⟨vb0, HV0⟩ : ∃ x, Hid (versLast z0 l0 s1 = x) := ⟨_, Lib.hid rfl⟩
  have HA0 := Lib.hid (sameB_refl z0 l0)
  go_enter Try.func5, Try.ntmps5
  have hb_t1 := below_alloc (Below.refl _ w) (.cells #[.int .i64 z0, .slice A0 l0.length c0] 24)
  have B0_t1 := blkA w #[.int .i64 z0, .slice A0 l0.length c0] 24
  have hz_t1 : (w.alloc (.cells #[.int .i64 z0, .slice A0 l0.length c0] 24)).heap.size = w.heap.size + 1 := World.size_alloc _ _
  have hw_t2 := hb_t1
  have hs_t2 := hb_t1.size
  have qB00 : (w.alloc (.cells #[.int .i64 z0, .slice A0 l0.length c0] 24)).cell? ⟨w.heap.size, 0, none⟩ = some (.int .i64 z0) := by rw [B0_t1.cell]; rfl
  have qB01 : (w.alloc (.cells #[.int .i64 z0, .slice A0 l0.length c0] 24)).cell? ⟨w.heap.size, 1, none⟩ = some (.slice A0 l0.length c0) := by rw [B0_t1.cell]; rfl
  go_wp2_with fail
  clear qB00 qB01
  refine (szVers_c z0 A0 c0 l0 1048576 _ hf0 hc0 hm0 (by omega) (by omega) ((hr0.below hw_t2).more hw_t2.size)).mono ?_
  rintro e w1 ⟨rfl, hb1⟩
  rw [H0.out]
  have B0_t3 := B0_t1.next hb1
  clear B0_t1
  have hw_t3 := below_next hw_t2 hb1
  have hs_t3 := hb1.size
  have qB00 : w1.cell? ⟨w.heap.size, 0, none⟩ = some (.int .i64 z0) := by rw [B0_t3.cell]; rfl
  have qB01 : w1.cell? ⟨w.heap.size, 1, none⟩ = some (.slice A0 l0.length c0) := by rw [B0_t3.cell]; rfl
  go_wp2_with fail
  clear qB00 qB01
  refine (toVers_c z0 A0 c0 l0 _ hc0 hlen0 ((hr0.below hw_t3).more hw_t3.size)).mono ?_
  rintro e w2 ⟨gY0, rfl, Y0_n, ge_Y00, lt_Y00, hb2⟩
  have B0_t4 := B0_t3.next hb2
  clear B0_t3
  have hw_t4 := below_next hw_t3 hb2
  have hs_t4 := hb2.size
  have ge_Y0 : ∀ g, (Value.slice (some ⟨gY0, 0, none⟩) l0.length l0.length).ownBlock = some g → (w1).heap.size ≤ g := fun g hg => (by have : gY0 = g := Option.some.inj hg; omega)
  have lt_Y0 : ∀ g, (Value.slice (some ⟨gY0, 0, none⟩) l0.length l0.length).ownBlock = some g → g < w2.heap.size := fun g hg => (by have : gY0 = g := Option.some.inj hg; omega)
  clear ge_Y00 lt_Y00
  have qB00 : w2.cell? ⟨w.heap.size, 0, none⟩ = some (.int .i64 z0) := by rw [B0_t4.cell]; rfl
  have qB01 : w2.cell? ⟨w.heap.size, 1, none⟩ = some (.slice A0 l0.length c0) := by rw [B0_t4.cell]; rfl
  go_wp2_with fail
  clear qB00 qB01
  refine (specVersLastO s1 Y0_n hf0 hlen0).mono ?_
  rw [HV0.out]
  rintro e w3 ⟨rfl, hb3⟩
  have Y0_t5 := Y0_n.next hb3
  clear Y0_n
  have B0_t5 := B0_t4.next hb3
  clear B0_t4
  have hw_t5 := below_next hw_t4 hb3
  have hs_t5 := hb3.size
  clear Y0_t5
  have qB00 : w3.cell? ⟨w.heap.size, 0, none⟩ = some (.int .i64 z0) := by rw [B0_t5.cell]; rfl
  have qB01 : w3.cell? ⟨w.heap.size, 1, none⟩ = some (.slice A0 l0.length c0) := by rw [B0_t5.cell]; rfl
  go_wp2_with fail
  clear qB00 qB01
  refine (toVers_c z0 A0 c0 l0 _ hc0 hlen0 ((hr0.below hw_t5).more hw_t5.size)).mono ?_
  rintro e w4 ⟨gX0, rfl, X0_n, ge_X00, lt_X00, hb4⟩
  have B0_t6 := B0_t5.next hb4
  clear B0_t5
  have hw_t6 := below_next hw_t5 hb4
  have hs_t6 := hb4.size
  have ge_X0 : ∀ g, (Value.slice (some ⟨gX0, 0, none⟩) l0.length l0.length).ownBlock = some g → (w3).heap.size ≤ g := fun g hg => (by have : gX0 = g := Option.some.inj hg; omega)
  have lt_X0 : ∀ g, (Value.slice (some ⟨gX0, 0, none⟩) l0.length l0.length).ownBlock = some g → g < w4.heap.size := fun g hg => (by have : gX0 = g := Option.some.inj hg; omega)
  clear ge_X00 lt_X00
  have hb_t7 := below_alloc (Below.refl _ w4) (.cells #[.int .i64 z0, .slice (some ⟨gX0, 0, none⟩) l0.length l0.length] 29)
  have Bx0_t7 := blkA w4 #[.int .i64 z0, .slice (some ⟨gX0, 0, none⟩) l0.length l0.length] 29
  have hz_t7 : (w4.alloc (.cells #[.int .i64 z0, .slice (some ⟨gX0, 0, none⟩) l0.length l0.length] 29)).heap.size = w4.heap.size + 1 := World.size_alloc _ _
  have X0_t8 := X0_n.next hb_t7
  clear X0_n
  have B0_t8 := B0_t6.next hb_t7
  clear B0_t6
  have hw_t8 := below_next hw_t6 hb_t7
  have hs_t8 := hb_t7.size
  have qB00 : (w4.alloc (.cells #[.int .i64 z0, .slice (some ⟨gX0, 0, none⟩) l0.length l0.length] 29)).cell? ⟨w.heap.size, 0, none⟩ = some (.int .i64 z0) := by rw [B0_t8.cell]; rfl
  have qB01 : (w4.alloc (.cells #[.int .i64 z0, .slice (some ⟨gX0, 0, none⟩) l0.length l0.length] 29)).cell? ⟨w.heap.size, 1, none⟩ = some (.slice A0 l0.length c0) := by rw [B0_t8.cell]; rfl
  have qBx00 : (w4.alloc (.cells #[.int .i64 z0, .slice (some ⟨gX0, 0, none⟩) l0.length l0.length] 29)).cell? ⟨w4.heap.size, 0, none⟩ = some (.int .i64 z0) := by rw [Bx0_t7.cell]; rfl
  have qBx01 : (w4.alloc (.cells #[.int .i64 z0, .slice (some ⟨gX0, 0, none⟩) l0.length l0.length] 29)).cell? ⟨w4.heap.size, 1, none⟩ = some (.slice (some ⟨gX0, 0, none⟩) l0.length l0.length) := by rw [Bx0_t7.cell]; rfl
  go_wp2_with fail
  clear qB00 qB01 qBx00 qBx01
  refine (implVersLastO s1 X0_t8 hf0 hlen0).mono ?_
  rw [HV0.out]
  rintro e w5 ⟨rfl, hb5⟩
  have X0_t9 := X0_t8.next hb5
  clear X0_t8
  have B0_t9 := B0_t8.next hb5
  clear B0_t8
  have Bx0_t9 := Bx0_t7.next hb5
  clear Bx0_t7
  have hw_t9 := below_next hw_t8 hb5
  have hs_t9 := hb5.size
  have qB00 : w5.cell? ⟨w.heap.size, 0, none⟩ = some (.int .i64 z0) := by rw [B0_t9.cell]; rfl
  have qB01 : w5.cell? ⟨w.heap.size, 1, none⟩ = some (.slice A0 l0.length c0) := by rw [B0_t9.cell]; rfl
  have qBx00 : w5.cell? ⟨w4.heap.size, 0, none⟩ = some (.int .i64 z0) := by rw [Bx0_t9.cell]; rfl
  have qBx01 : w5.cell? ⟨w4.heap.size, 1, none⟩ = some (.slice (some ⟨gX0, 0, none⟩) l0.length l0.length) := by rw [Bx0_t9.cell]; rfl
  go_wp2
  clear qB00 qB01 qBx00 qBx01
  have hb_t10 : Below w5.heap.size w5 w5.drew := (Below.refl _ _).drew
  have X0_t11 := X0_t9.next hb_t10
  clear X0_t9
  have B0_t11 := B0_t9.next hb_t10
  clear B0_t9
  have Bx0_t11 := Bx0_t9.next hb_t10
  clear Bx0_t9
  have hw_t11 := below_next hw_t9 hb_t10
  have hs_t11 := hb_t10.size
  refine wp_region_held_drew (S := (fun W => W.cell? ⟨w.heap.size, 0, none⟩ = some (.int .i64 z0) ∧ W.cell? ⟨w.heap.size, 1, none⟩ = some (.slice A0 l0.length c0) ∧ W.cell? ⟨w4.heap.size, 0, none⟩ = some (.int .i64 z0) ∧ W.cell? ⟨w4.heap.size, 1, none⟩ = some (.slice (some ⟨gX0, 0, none⟩) l0.length l0.length))) (by kernel_rfl) ?_ (fun hHeld => ?_)
  focus ((try dsimp only); (exact ⟨by rw [B0_t11.cell]; rfl, by rw [B0_t11.cell]; rfl, by rw [Bx0_t11.cell]; rfl, by rw [Bx0_t11.cell]; rfl⟩))
  (refine tkW (i := 0) (v := ?_) (by (simp only [ga, gb, gc]; rfl)) (by kernel_rfl) (by (intro _ _ _ h; exact h)) (by rfl) ?_ (by assumption) ?_; rotate_left; (focus ((intro w hSw; (try dsimp only at hSw); go_simp) <;> with_reducible rfl)); (try simp only [Act.put, pa, pb, pc]))
  (refine tkW (i := 1) (v := ?_) (by (simp only [ga, gb, gc]; rfl)) (by kernel_rfl) (by (intro _ _ _ h; exact h)) (by rfl) ?_ (by assumption) ?_; rotate_left; (focus ((intro w hSw; (try dsimp only at hSw); go_simp) <;> with_reducible rfl)); (try simp only [Act.put, pa, pb, pc]))
  (refine wpAnyH_ready (rs := [2]) (by kernel_rfl) (by simp) ?_; refine AllReadyH.cons (by (simp only [ga, gb, gc]; rfl)) (fun K hK => ?_) AllReadyH.nil; go_simp; (go_at_call 22; refine (toVers_c z0 A0 c0 l0 _ hc0 hlen0 ((hr0.below hw_t11).more hw_t11.size)).mono ?_; rintro e w6 ⟨gZ0, rfl, Z0_n, ge_Z00, lt_Z00, hb6⟩; have X0_t12 := X0_t11.next hb6; clear X0_t11; have B0_t12 := B0_t11.next hb6; clear B0_t11; have Bx0_t12 := Bx0_t11.next hb6; clear Bx0_t11; have hw_t12 := below_next hw_t11 hb6; have hs_t12 := hb6.size; have ge_Z0 : ∀ g, (Value.slice (some ⟨gZ0, 0, none⟩) l0.length l0.length).ownBlock = some g → (w5.drew).heap.size ≤ g := fun g hg => (by have : gZ0 = g := Option.some.inj hg; omega); have lt_Z0 : ∀ g, (Value.slice (some ⟨gZ0, 0, none⟩) l0.length l0.length).ownBlock = some g → g < w6.heap.size := fun g hg => (by have : gZ0 = g := Option.some.inj hg; omega); clear ge_Z00 lt_Z00); go_wp2_with fail; refine hK.out _ _ ?_ (fun hHeld => ?_); (focus ((try dsimp only); (exact ⟨by rw [B0_t12.cell]; rfl, by rw [B0_t12.cell]; rfl, by rw [Bx0_t12.cell]; rfl, by rw [Bx0_t12.cell]; rfl⟩))); clear hK K; (try simp only [Act.put, pa, pb, pc]))
  (refine wpAnyH_ready (rs := [3]) (by kernel_rfl) (by simp) ?_; refine AllReadyH.cons (by (simp only [ga, gb, gc]; rfl)) (fun K hK => ?_) AllReadyH.nil; go_simp; (go_at_call 24; refine (eqVers_c z0 z0 _ _ l0 l0 _ _ _ X0_t12 Z0_n (by omega) (by omega)).mono ?_; rintro e w7 ⟨rfl, hb7⟩; rw [HA0.out]; have X0_t13 := X0_t12.next hb7; clear X0_t12; have Z0_t13 := Z0_n.next hb7; clear Z0_n; have B0_t13 := B0_t12.next hb7; clear B0_t12; have Bx0_t13 := Bx0_t12.next hb7; clear Bx0_t12; have hw_t13 := below_next hw_t12 hb7; have hs_t13 := hb7.size); go_wp2_with fail; refine hK.out _ _ ?_ (fun hHeld => ?_); (focus ((try dsimp only); (exact ⟨by rw [B0_t13.cell]; rfl, by rw [B0_t13.cell]; rfl, by rw [Bx0_t13.cell]; rfl, by rw [Bx0_t13.cell]; rfl⟩))); clear hK K; (try simp only [Act.put, pa, pb, pc]))
  (refine tkW (i := 4) (v := ?_) (by (simp only [ga, gb, gc]; rfl)) (by kernel_rfl) (by (intro _ _ _ h; exact h)) (by rfl) ?_ (by assumption) ?_; rotate_left; (focus ((intro w hSw; (try dsimp only at hSw); go_simp) <;> with_reducible rfl)); (try simp only [Act.put, pa, pb, pc]))
  refine wpAnyH_done (by kernel_rfl) ?_ _
  clear Z0_t13
  have qB00 : w7.cell? ⟨w.heap.size, 0, none⟩ = some (.int .i64 z0) := by rw [B0_t13.cell]; rfl
  have qB01 : w7.cell? ⟨w.heap.size, 1, none⟩ = some (.slice A0 l0.length c0) := by rw [B0_t13.cell]; rfl
  have qBx00 : w7.cell? ⟨w4.heap.size, 0, none⟩ = some (.int .i64 z0) := by rw [Bx0_t13.cell]; rfl
  have qBx01 : w7.cell? ⟨w4.heap.size, 1, none⟩ = some (.slice (some ⟨gX0, 0, none⟩) l0.length l0.length) := by rw [Bx0_t13.cell]; rfl
  go_wp2
  go_ret
  exact ⟨rfl, hw_t13⟩

set_option maxRecDepth 100000 in
theorem lifted (os : Os) (started : os.Started) (H : Type) (enc : TypeId × Value → H) :
    ReturnsInHanded {} Try.checked os 5 .any (Rows.fnExactVersLastSpec.pre6 enc Try.prog Try.f5 Rows.fnExactVersLastRow.domain false) (Rows.fnExactVersLastSpec.post enc Try.prog Try.f5 false true false false) := by
  refine returnsInHanded_of_change (C := Try.checked) Whole.own started (by kernel_rfl) Try.func5
    (ChangeSpec.witness6 (enc := enc) (C := Try.checked) false ⟨#[], #[.agg #[.int .i64 0, .slice none 0 0], .string ByteArray.empty], []⟩ 8 (by kernel_rfl) (by kernel_rfl) (by kernel_rfl) (by kernel_rfl)) ?_
  intro W base args ds gs before hval0 hW hcnd _
  have hval : ∀ (j : Nat) t v, Try.f5.params[j]? = some t → args[j]? = some v → Value.okWide Try.prog W .any base t v := hval0
  have hW' := hW
  obtain ⟨p, q, hA0, hV, rfl, hfz, hnd⟩ := hW
  have hA : DataW.TrodAll enc Try.prog W 0 (fun _ => true) true Try.f5.params.toList args.toList ds p := hA0
  rw [Try.params5] at hA hval
  obtain ⟨v0, vs0, d0, ds0, p0, q0, hargs, rfl, rfl, h0, r0⟩ := trodAll_cons hA
  obtain ⟨v1, vs1, d1, ds1, p1, q1, rfl, rfl, rfl, h1, r1⟩ := trodAll_cons r0
  obtain ⟨rfl, rfl, rfl⟩ := trodAll_nil r1
  obtain rfl : args = #[v0, v1] := by cases args; simp_all
  obtain ⟨rfl, rfl⟩ := trodVars_none hV
  have k0 := h0
  have lt0 : ∀ x ∈ p0, x.block < W.heap.size := by obtain ⟨m, hm⟩ := k0; exact DataW.trod_lt m _ _ _ hm
  obtain ⟨z0, A0, c0, l0, rfl, hz0, hc0, hm0, hf0, hr0⟩ := openArgVers (hval 0 24 v0 rfl rfl) h0
  obtain ⟨s1, rfl, rfl, rfl, hs1⟩ := open_string Try.underlying9 (hval 1 9 v1 rfl rfl) h1
  clear hA0 hval0
  refine (walk z0 A0 c0 l0 s1 W hz0 hc0 hm0 hf0 hr0 hs1).mono fun e W' ⟨he, bel⟩ => ?_
  subst he
  exact ⟨_, rfl, _, _, _, [], _, [], hW', trodAll_mk1 (shut_bool Try.underlying4 _), (trodAll_cons_mk (Below.trod Whole.laidOut (by kernel_rfl) (of_decide_eq_true (by kernel_rfl)) k0 bel lt0) (trodAll_cons_mk (shut_string Try.underlying9 hs1) trodAll_mk0)), rfl, bel.frame _, fun h => by cases h⟩

theorem named : Try.prog.funcNamed Rows.fnExactVersLastRow.func = some 5 := by kernel_rfl
theorem closed : Whole.lawFacts Try.prog 5 Try.f5 Rows.fnExactVersLastSpec Rows.fnExactVersLastRow = true := by kernel_rfl
theorem inst : Try.f5.isInstance Try.prog Rows.fnExactVersLastRow.origin Rows.fnExactVersLastRow.targs := of_decide_eq_true (by kernel_rfl)
theorem wrap : Try.f5.isWrapper Try.prog Rows.fnExactVersLastRow.wrapper Rows.fnExactVersLastRow.mainSum := by
  unfold Func.isWrapper; first | (rw [if_pos (by decide +kernel)]; kernel_rfl) | (rw [if_neg (by decide +kernel)]; exact ⟨rfl, rfl⟩)
theorem over : Rows.fnExactVersLastRow.holds Try.pinned (OpenSpec.ofChange Rows.fnExactVersLastSpec) :=
  OpenClaim.holds_of_wide 5 Try.f5 rfl rfl rfl rfl rfl rfl rfl ⟨rfl, rfl, rfl, rfl, rfl⟩ rfl rfl rfl rfl rfl named Try.func5 (Whole.facts_of closed)
    inst wrap (fun os started H enc _ => lifted os started H enc)

theorem proved : Rows.FnExactVersLastSaid := over
#print axioms proved
end Go.Proofs.Ytbhdgalkedegjaa.fnExactVersLast
