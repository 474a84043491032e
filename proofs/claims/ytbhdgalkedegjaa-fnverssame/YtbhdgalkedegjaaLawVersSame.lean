/- The law FnVersSame: for every code that is drawn from, a history is itself and another one is another one from both sides, and what one does in order is right just if each is and no key is there twice, as in the model: for every input the call returns true, and the argument reads afterwards as before. No conditions. -/
import Derived.Test.YtbhdgalkedegjaaRows
import Derived.Test.YtbhdgalkedegjaaWhole
import Derived.Test.YtbhdgalkedegjaaA1
import Derived.Test.YtbhdgalkedegjaaDv9
import Derived.Test.YtbhdgalkedegjaaM2d
import Derived.Test.YtbhdgalkedegjaaS2s
import Derived.Test.YtbhdgalkedegjaaS2w
import Derived.Test.YtbhdgalkedegjaaA4
import Derived.WalkKit
import Derived.ProofKit
import Derived.OpenShut
import Derived.ShutString
import Derived.ChangeOld
import Derived.Below
namespace Go.Proofs.Ytbhdgalkedegjaa.fnVersSame
open Go.ChangeShapes Go.WideShapes Go.ChangeAt Go.RowKit
open Go.ChangeMaps (open_string shut_string)
set_option linter.unusedVariables false

set_option maxRecDepth 100000 in
set_option maxHeartbeats 1000000 in
theorem walk (A0 : Option Addr) (n0 c0 : Nat) (w : World) (hc0 : n0 ≤ c0) (hm0 : c0 ≤ maxLen) (hr0 : RdB w w.heap.size A0 n0) :
    Calls Try.prog 15 #[.slice A0 n0 c0] w fun e w' => e = .returned (.bool true) ∧ Below w.heap.size w w' := by
  by_cases hn_n0 : (1048576 : Int) < (n0 : Int)
  · go_enter Try.func15, Try.ntmps15
    go_wp2
    go_ret
    exact ⟨rfl, Below.refl _ _⟩
  go_enter Try.func15, Try.ntmps15
  go_wp2_with fail
  refine (drawVersSame A0 n0 c0 w hc0 hm0 hr0).mono ?_
  rintro e w1 ⟨za, Va, la, zb, Vb, lb, rfl, a_n, hfa, hza, hla, b_n, hfb, hzb, hlb, hb1⟩
  obtain ⟨ada, ca, rfl, ry1_a, ry2_a, ry3_a⟩ := a_n.read
  clear ry1_a ry2_a ry3_a
  obtain ⟨adb, cb, rfl, ry1_b, ry2_b, ry3_b⟩ := b_n.read
  clear ry1_b ry2_b ry3_b
  have hw_t1 := hb1
  have hs_t1 := hb1.size
  have hb_t3 := below_alloc (Below.refl _ w1) (.cells #[.int .i64 za, .slice ada la.length ca] 29)
  have Ba_t3 := blkA w1 #[.int .i64 za, .slice ada la.length ca] 29
  have hz_t3 : (w1.alloc (.cells #[.int .i64 za, .slice ada la.length ca] 29)).heap.size = w1.heap.size + 1 := World.size_alloc _ _
  have a_t4 := a_n.next hb_t3
  clear a_n
  have b_t4 := b_n.next hb_t3
  clear b_n
  have hw_t4 := below_next hw_t1 hb_t3
  have hs_t4 := hb_t3.size
  have hb_t6 := below_alloc (Below.refl _ (w1.alloc (.cells #[.int .i64 za, .slice ada la.length ca] 29))) (.cells #[.int .i64 zb, .slice adb lb.length cb] 29)
  have Bb_t6 := blkA (w1.alloc (.cells #[.int .i64 za, .slice ada la.length ca] 29)) #[.int .i64 zb, .slice adb lb.length cb] 29
  simp only [World.size_alloc] at Bb_t6
  have hz_t6 : ((w1.alloc (.cells #[.int .i64 za, .slice ada la.length ca] 29)).alloc (.cells #[.int .i64 zb, .slice adb lb.length cb] 29)).heap.size = (w1.alloc (.cells #[.int .i64 za, .slice ada la.length ca] 29)).heap.size + 1 := World.size_alloc _ _
  have a_t7 := a_t4.next hb_t6
  clear a_t4
  have b_t7 := b_t4.next hb_t6
  clear b_t4
  have Ba_t7 := Ba_t3.next hb_t6
  clear Ba_t3
  have hw_t7 := below_next hw_t4 hb_t6
  have hs_t7 := hb_t6.size
  have qBa0 : ((w1.alloc (.cells #[.int .i64 za, .slice ada la.length ca] 29)).alloc (.cells #[.int .i64 zb, .slice adb lb.length cb] 29)).cell? ⟨w1.heap.size, 0, none⟩ = some (.int .i64 za) := by rw [Ba_t7.cell]; rfl
  have qBa1 : ((w1.alloc (.cells #[.int .i64 za, .slice ada la.length ca] 29)).alloc (.cells #[.int .i64 zb, .slice adb lb.length cb] 29)).cell? ⟨w1.heap.size, 1, none⟩ = some (.slice ada la.length ca) := by rw [Ba_t7.cell]; rfl
  have qBb0 : ((w1.alloc (.cells #[.int .i64 za, .slice ada la.length ca] 29)).alloc (.cells #[.int .i64 zb, .slice adb lb.length cb] 29)).cell? ⟨w1.heap.size + 1, 0, none⟩ = some (.int .i64 zb) := by rw [Bb_t6.cell]; rfl
  have qBb1 : ((w1.alloc (.cells #[.int .i64 za, .slice ada la.length ca] 29)).alloc (.cells #[.int .i64 zb, .slice adb lb.length cb] 29)).cell? ⟨w1.heap.size + 1, 1, none⟩ = some (.slice adb lb.length cb) := by rw [Bb_t6.cell]; rfl
  go_wp2_with fail
  clear qBa0 qBa1 qBb0 qBb1
  refine (drawWritesOk A0 n0 c0 _ hc0 hm0 (hr0.next hw_t7)).mono ?_
  rintro e w2 ⟨Vu, xx, rfl, u_n, hfx, hlx, hb2⟩
  obtain ⟨adu, cu, rfl, ry1_u, ry2_u, ry3_u⟩ := u_n.read
  clear ry2_u ry3_u
  have a_t9 := a_t7.next hb2
  clear a_t7
  have b_t9 := b_t7.next hb2
  clear b_t7
  have Ba_t9 := Ba_t7.next hb2
  clear Ba_t7
  have Bb_t9 := Bb_t6.next hb2
  clear Bb_t6
  have hw_t9 := below_next hw_t7 hb2
  have hs_t9 := hb2.size
  obtain ⟨SB, HSB⟩ : ∃ SB, Hid (sameB za zb la lb = SB) := ⟨_, Lib.hid rfl⟩
  have HSB2 : Hid (sameB zb za lb la = SB) := Lib.hid ((sameB_symm _ _ _ _).trans HSB.out)
  obtain ⟨WB, HWB⟩ : ∃ WB, Hid (writesB xx = WB) := ⟨_, Lib.hid rfl⟩
  have hsb : (SB != SB) = false := by cases SB <;> rfl
  have hwb : (WB != WB) = false := by cases WB <;> rfl
  have qBa0 : w2.cell? ⟨w1.heap.size, 0, none⟩ = some (.int .i64 za) := by rw [Ba_t9.cell]; rfl
  have qBa1 : w2.cell? ⟨w1.heap.size, 1, none⟩ = some (.slice ada la.length ca) := by rw [Ba_t9.cell]; rfl
  have qBb0 : w2.cell? ⟨w1.heap.size + 1, 0, none⟩ = some (.int .i64 zb) := by rw [Bb_t9.cell]; rfl
  have qBb1 : w2.cell? ⟨w1.heap.size + 1, 1, none⟩ = some (.slice adb lb.length cb) := by rw [Bb_t9.cell]; rfl
  go_wp2
  clear qBa0 qBa1 qBb0 qBb1
  have hb_t11 : Below w2.heap.size w2 w2.drew := (Below.refl _ _).drew
  have a_t12 := a_t9.next hb_t11
  clear a_t9
  have b_t12 := b_t9.next hb_t11
  clear b_t9
  have u_t12 := u_n.next hb_t11
  clear u_n
  have Ba_t12 := Ba_t9.next hb_t11
  clear Ba_t9
  have Bb_t12 := Bb_t9.next hb_t11
  clear Bb_t9
  have hw_t12 := below_next hw_t9 hb_t11
  have hs_t12 := hb_t11.size
  refine wp_region_held_drew (S := (fun W => W.cell? ⟨w1.heap.size, 0, none⟩ = some (.int .i64 za) ∧ W.cell? ⟨w1.heap.size, 1, none⟩ = some (.slice ada la.length ca) ∧ W.cell? ⟨w1.heap.size + 1, 0, none⟩ = some (.int .i64 zb) ∧ W.cell? ⟨w1.heap.size + 1, 1, none⟩ = some (.slice adb lb.length cb))) (by kernel_rfl) ?_ (fun hHeld => ?_)
  focus ((try dsimp only); (exact ⟨by rw [Ba_t12.cell]; rfl, by rw [Ba_t12.cell]; rfl, by rw [Bb_t12.cell]; rfl, by rw [Bb_t12.cell]; rfl⟩))
  (refine tk 0 ?_; try simp only [Act.put, pa, pb, pc])
  (refine tk 1 ?_; try simp only [Act.put, pa, pb, pc])
  (refine tk 3 ?_; try simp only [Act.put, pa, pb, pc])
  (refine tk 4 ?_; try simp only [Act.put, pa, pb, pc])
  (refine rd1 2 (fun K hK => ?_); go_simp; (go_at_call 45; refine (implSameO a_t12 b_t12 (by omega) (by omega)).mono ?_; rintro e w3 ⟨rfl, hb3⟩; rw [HSB.out]; have a_t14 := a_t12.next hb3; clear a_t12; have b_t14 := b_t12.next hb3; clear b_t12; have u_t14 := u_t12.next hb3; clear u_t12; have Ba_t14 := Ba_t12.next hb3; clear Ba_t12; have Bb_t14 := Bb_t12.next hb3; clear Bb_t12; have hw_t14 := below_next hw_t12 hb3; have hs_t14 := hb3.size); go_wp2_with fail; refine hK.out _ _ ?_ (fun hHeld => ?_); (focus ((try dsimp only); (exact ⟨by rw [Ba_t14.cell]; rfl, by rw [Ba_t14.cell]; rfl, by rw [Bb_t14.cell]; rfl, by rw [Bb_t14.cell]; rfl⟩))); clear hK K; (try simp only [Act.put, pa, pb, pc]))
  (refine rd1 5 (fun K hK => ?_); go_simp; (go_at_call 44; refine (specSameO a_t14 b_t14 (by omega) (by omega)).mono ?_; rintro e w4 ⟨rfl, hb4⟩; rw [HSB.out]; have a_t16 := a_t14.next hb4; clear a_t14; have b_t16 := b_t14.next hb4; clear b_t14; have u_t16 := u_t14.next hb4; clear u_t14; have Ba_t16 := Ba_t14.next hb4; clear Ba_t14; have Bb_t16 := Bb_t14.next hb4; clear Bb_t14; have hw_t16 := below_next hw_t14 hb4; have hs_t16 := hb4.size); go_wp2_with fail; refine hK.out _ _ ?_ (fun hHeld => ?_); (focus ((try dsimp only); (exact ⟨by rw [Ba_t16.cell]; rfl, by rw [Ba_t16.cell]; rfl, by rw [Bb_t16.cell]; rfl, by rw [Bb_t16.cell]; rfl⟩))); clear hK K; (try simp only [Act.put, pa, pb, pc]))
  (refine tk 6 ?_; try simp only [Act.put, pa, pb, pc])
  (refine tk 7 ?_; try simp only [Act.put, pa, pb, pc])
  (refine tk 8 ?_; try simp only [Act.put, pa, pb, pc])
  (refine tk 9 ?_; try simp only [Act.put, pa, pb, pc])
  (refine tk 11 ?_; try simp only [Act.put, pa, pb, pc])
  (refine tk 12 ?_; try simp only [Act.put, pa, pb, pc])
  (refine rd1 10 (fun K hK => ?_); go_simp; (go_at_call 45; refine (implSameO a_t16 b_t16 (by omega) (by omega)).mono ?_; rintro e w5 ⟨rfl, hb5⟩; rw [HSB.out]; have a_t18 := a_t16.next hb5; clear a_t16; have b_t18 := b_t16.next hb5; clear b_t16; have u_t18 := u_t16.next hb5; clear u_t16; have Ba_t18 := Ba_t16.next hb5; clear Ba_t16; have Bb_t18 := Bb_t16.next hb5; clear Bb_t16; have hw_t18 := below_next hw_t16 hb5; have hs_t18 := hb5.size); go_wp2_with fail; refine hK.out _ _ ?_ (fun hHeld => ?_); (focus ((try dsimp only); (exact ⟨by rw [Ba_t18.cell]; rfl, by rw [Ba_t18.cell]; rfl, by rw [Bb_t18.cell]; rfl, by rw [Bb_t18.cell]; rfl⟩))); clear hK K; (try simp only [Act.put, pa, pb, pc]))
  (refine rd1 13 (fun K hK => ?_); go_simp; (go_at_call 45; refine (implSameO b_t18 a_t18 (by omega) (by omega)).mono ?_; rintro e w6 ⟨rfl, hb6⟩; rw [HSB2.out]; have a_t20 := a_t18.next hb6; clear a_t18; have b_t20 := b_t18.next hb6; clear b_t18; have u_t20 := u_t18.next hb6; clear u_t18; have Ba_t20 := Ba_t18.next hb6; clear Ba_t18; have Bb_t20 := Bb_t18.next hb6; clear Bb_t18; have hw_t20 := below_next hw_t18 hb6; have hs_t20 := hb6.size); go_wp2_with fail; refine hK.out _ _ ?_ (fun hHeld => ?_); (focus ((try dsimp only); (exact ⟨by rw [Ba_t20.cell]; rfl, by rw [Ba_t20.cell]; rfl, by rw [Bb_t20.cell]; rfl, by rw [Bb_t20.cell]; rfl⟩))); clear hK K; (try simp only [Act.put, pa, pb, pc]))
  (refine tk 14 ?_; try simp only [Act.put, pa, pb, pc])
  (refine tk 15 ?_; try simp only [Act.put, pa, pb, pc])
  (refine tk 16 ?_; try simp only [Act.put, pa, pb, pc])
  (refine tk 17 ?_; try simp only [Act.put, pa, pb, pc])
  (refine tk 18 ?_; try simp only [Act.put, pa, pb, pc])
  (refine rd1 19 (fun K hK => ?_); go_simp; (go_at_call 45; refine (implSameO a_t20 a_t20 (by omega) (by omega)).mono ?_; rintro e w7 ⟨rfl, hb7⟩; rw [sameB_refl]; have a_t22 := a_t20.next hb7; clear a_t20; have b_t22 := b_t20.next hb7; clear b_t20; have u_t22 := u_t20.next hb7; clear u_t20; have Ba_t22 := Ba_t20.next hb7; clear Ba_t20; have Bb_t22 := Bb_t20.next hb7; clear Bb_t20; have hw_t22 := below_next hw_t20 hb7; have hs_t22 := hb7.size); go_wp2_with fail; refine hK.out _ _ ?_ (fun hHeld => ?_); (focus ((try dsimp only); (exact ⟨by rw [Ba_t22.cell]; rfl, by rw [Ba_t22.cell]; rfl, by rw [Bb_t22.cell]; rfl, by rw [Bb_t22.cell]; rfl⟩))); clear hK K; (try simp only [Act.put, pa, pb, pc]))
  (refine tk 20 ?_; try simp only [Act.put, pa, pb, pc])
  (refine tk 21 ?_; try simp only [Act.put, pa, pb, pc])
  (refine tk 22 ?_; try simp only [Act.put, pa, pb, pc])
  (refine tk 23 ?_; try simp only [Act.put, pa, pb, pc])
  (refine tk 25 ?_; try simp only [Act.put, pa, pb, pc])
  (refine rd1 24 (fun K hK => ?_); go_simp; (go_at_call 36; refine (implWritesOkO u_t22 hfx (by omega)).mono ?_; rintro e w8 ⟨rfl, hb8⟩; rw [HWB.out]; have a_t24 := a_t22.next hb8; clear a_t22; have b_t24 := b_t22.next hb8; clear b_t22; have u_t24 := u_t22.next hb8; clear u_t22; have Ba_t24 := Ba_t22.next hb8; clear Ba_t22; have Bb_t24 := Bb_t22.next hb8; clear Bb_t22; have hw_t24 := below_next hw_t22 hb8; have hs_t24 := hb8.size); go_wp2_with fail; refine hK.out _ _ ?_ (fun hHeld => ?_); (focus ((try dsimp only); (exact ⟨by rw [Ba_t24.cell]; rfl, by rw [Ba_t24.cell]; rfl, by rw [Bb_t24.cell]; rfl, by rw [Bb_t24.cell]; rfl⟩))); clear hK K; (try simp only [Act.put, pa, pb, pc]))
  (refine rd1 26 (fun K hK => ?_); go_simp; (go_at_call 34; refine (specWritesOkO u_t24 hfx).mono ?_; rintro e w9 ⟨rfl, hb9⟩; rw [HWB.out]; have a_t26 := a_t24.next hb9; clear a_t24; have b_t26 := b_t24.next hb9; clear b_t24; have u_t26 := u_t24.next hb9; clear u_t24; have Ba_t26 := Ba_t24.next hb9; clear Ba_t24; have Bb_t26 := Bb_t24.next hb9; clear Bb_t24; have hw_t26 := below_next hw_t24 hb9; have hs_t26 := hb9.size); go_wp2_with fail; refine hK.out _ _ ?_ (fun hHeld => ?_); (focus ((try dsimp only); (exact ⟨by rw [Ba_t26.cell]; rfl, by rw [Ba_t26.cell]; rfl, by rw [Bb_t26.cell]; rfl, by rw [Bb_t26.cell]; rfl⟩))); clear hK K; (try simp only [Act.put, pa, pb, pc]))
  (refine tk 27 ?_; try simp only [Act.put, pa, pb, pc])
  (refine tk 28 ?_; try simp only [Act.put, pa, pb, pc])
  refine wpAnyH_done (by kernel_rfl) ?_ _
  have hwz : IntKind.i64.wrap (za + 1) = za + 1 := IntWalk.i64_in _ (by omega)
  obtain ⟨B6, H6⟩ : ∃ B6, Hid (decide (xx.length ≤ 6) = B6) := ⟨_, Lib.hid rfl⟩
  have h6n := H6.out
  have h6i : decide ((xx.length : Int) ≤ 6) = B6 := by rw [← h6n]; congr 1; rw [eq_iff_iff]; omega
  have rBa0 : w9.cell? ⟨w1.heap.size, 0, none⟩ = some (.int .i64 za) := by rw [Ba_t26.cell]; rfl
  have rBa1 : w9.cell? ⟨w1.heap.size, 1, none⟩ = some (.slice ada la.length ca) := by rw [Ba_t26.cell]; rfl
  have rBb0 : w9.cell? ⟨w1.heap.size + 1, 0, none⟩ = some (.int .i64 zb) := by rw [Bb_t26.cell]; rfl
  have rBb1 : w9.cell? ⟨w1.heap.size + 1, 1, none⟩ = some (.slice adb lb.length cb) := by rw [Bb_t26.cell]; rfl
  have m0 : (w9.alloc (.cells #[.int .i64 za, .slice ada la.length ca] 29)).cell? ⟨w1.heap.size, 0, none⟩ = some (.int .i64 za) := by rw [(Ba_t26.alloc _).cell]; rfl
  have hb_t28 := below_alloc (Below.refl _ w9) (.cells #[.int .i64 (za + 1), .slice ada la.length ca] 29)
  have Bc_t28 := blkA w9 #[.int .i64 (za + 1), .slice ada la.length ca] 29
  have hz_t28 : (w9.alloc (.cells #[.int .i64 (za + 1), .slice ada la.length ca] 29)).heap.size = w9.heap.size + 1 := World.size_alloc _ _
  have a_t29 := a_t26.next hb_t28
  clear a_t26
  have b_t29 := b_t26.next hb_t28
  clear b_t26
  have u_t29 := u_t26.next hb_t28
  clear u_t26
  have Ba_t29 := Ba_t26.next hb_t28
  clear Ba_t26
  have Bb_t29 := Bb_t26.next hb_t28
  clear Bb_t26
  have hw_t29 := below_next hw_t26 hb_t28
  have hs_t29 := hb_t28.size
  have qBa0 : (w9.alloc (.cells #[.int .i64 (za + 1), .slice ada la.length ca] 29)).cell? ⟨w1.heap.size, 0, none⟩ = some (.int .i64 za) := by rw [Ba_t29.cell]; rfl
  have qBa1 : (w9.alloc (.cells #[.int .i64 (za + 1), .slice ada la.length ca] 29)).cell? ⟨w1.heap.size, 1, none⟩ = some (.slice ada la.length ca) := by rw [Ba_t29.cell]; rfl
  have qBb0 : (w9.alloc (.cells #[.int .i64 (za + 1), .slice ada la.length ca] 29)).cell? ⟨w1.heap.size + 1, 0, none⟩ = some (.int .i64 zb) := by rw [Bb_t29.cell]; rfl
  have qBb1 : (w9.alloc (.cells #[.int .i64 (za + 1), .slice ada la.length ca] 29)).cell? ⟨w1.heap.size + 1, 1, none⟩ = some (.slice adb lb.length cb) := by rw [Bb_t29.cell]; rfl
  have qBc0 : (w9.alloc (.cells #[.int .i64 (za + 1), .slice ada la.length ca] 29)).cell? ⟨w9.heap.size, 0, none⟩ = some (.int .i64 (za + 1)) := by rw [Bc_t28.cell]; rfl
  have qBc1 : (w9.alloc (.cells #[.int .i64 (za + 1), .slice ada la.length ca] 29)).cell? ⟨w9.heap.size, 1, none⟩ = some (.slice ada la.length ca) := by rw [Bc_t28.cell]; rfl
  go_wp2
  clear qBa0 qBa1 qBb0 qBb1 qBc0 qBc1
  go_loopw [7, 8] (fun r i W => ∃ k : Nat, k ≤ xx.length ∧ i = .int .i64 k ∧ r = .bool (rightB xx k) ∧ Below (w9.alloc (.cells #[.int .i64 (za + 1), .slice ada la.length ca] 29)).heap.size (w9.alloc (.cells #[.int .i64 (za + 1), .slice ada la.length ca] 29)) W) (fun _ i _ => xx.length - (intOf i).toNat)
  case atStart => exact ⟨0, Nat.zero_le _, rfl, by rw [rightB_zero, H6.out], Below.refl _ _⟩
  case round =>
    obtain ⟨k, hk, rfl, rfl, hbl⟩ := hrel
    have lq0 := hbl
    have a_t31 := a_t29.next hbl
    clear a_t29
    have b_t31 := b_t29.next hbl
    clear b_t29
    have u_t31 := u_t29.next hbl
    clear u_t29
    have Ba_t31 := Ba_t29.next hbl
    clear Ba_t29
    have Bb_t31 := Bb_t29.next hbl
    clear Bb_t29
    have Bc_t31 := Bc_t28.next hbl
    clear Bc_t28
    have hw_t31 := below_next hw_t29 hbl
    have hs_t31 := hbl.size
    clear h6n h6i
    obtain ⟨rb, HRB⟩ : ∃ rb, Hid (rightB xx k = rb) := ⟨_, Lib.hid rfl⟩
    rw [HRB.out]
    by_cases hlt : k < xx.length
    · have hkI := lenI _ _ hlt
      have HS := Lib.hid (rightB_succ hlt)
      cases hrb : rb
      · subst hrb
        have HE : Hid (rightB xx (k + 1) = false) := Lib.hid (by rw [HS.out, HRB.out]; rfl)
        clear HS
        have qBa0 : wr.cell? ⟨w1.heap.size, 0, none⟩ = some (.int .i64 za) := by rw [Ba_t31.cell]; rfl
        have qBa1 : wr.cell? ⟨w1.heap.size, 1, none⟩ = some (.slice ada la.length ca) := by rw [Ba_t31.cell]; rfl
        have qBb0 : wr.cell? ⟨w1.heap.size + 1, 0, none⟩ = some (.int .i64 zb) := by rw [Bb_t31.cell]; rfl
        have qBb1 : wr.cell? ⟨w1.heap.size + 1, 1, none⟩ = some (.slice adb lb.length cb) := by rw [Bb_t31.cell]; rfl
        have qBc0 : wr.cell? ⟨w9.heap.size, 0, none⟩ = some (.int .i64 (za + 1)) := by rw [Bc_t31.cell]; rfl
        have qBc1 : wr.cell? ⟨w9.heap.size, 1, none⟩ = some (.slice ada la.length ca) := by rw [Bc_t31.cell]; rfl
        go_wp2
        clear qBa0 qBa1 qBb0 qBb1 qBc0 qBc1
        have hb_t33 : Below wr.heap.size wr wr.drew := (Below.refl _ _).drew
        have a_t34 := a_t31.next hb_t33
        clear a_t31
        have b_t34 := b_t31.next hb_t33
        clear b_t31
        have u_t34 := u_t31.next hb_t33
        clear u_t31
        have Ba_t34 := Ba_t31.next hb_t33
        clear Ba_t31
        have Bb_t34 := Bb_t31.next hb_t33
        clear Bb_t31
        have Bc_t34 := Bc_t31.next hb_t33
        clear Bc_t31
        have hw_t34 := below_next hw_t31 hb_t33
        have hs_t34 := hb_t33.size
        have lw0_t35 := below_next lq0 hb_t33
        refine wp_region_held_drew (S := (fun W => W.cell? ⟨w1.heap.size, 0, none⟩ = some (.int .i64 za) ∧ W.cell? ⟨w1.heap.size, 1, none⟩ = some (.slice ada la.length ca) ∧ W.cell? ⟨w1.heap.size + 1, 0, none⟩ = some (.int .i64 zb) ∧ W.cell? ⟨w1.heap.size + 1, 1, none⟩ = some (.slice adb lb.length cb) ∧ W.cell? ⟨w9.heap.size, 0, none⟩ = some (.int .i64 (za + 1)) ∧ W.cell? ⟨w9.heap.size, 1, none⟩ = some (.slice ada la.length ca))) (by kernel_rfl) ?_ (fun hHeld => ?_)
        focus ((try dsimp only); (exact ⟨by rw [Ba_t34.cell]; rfl, by rw [Ba_t34.cell]; rfl, by rw [Bb_t34.cell]; rfl, by rw [Bb_t34.cell]; rfl, by rw [Bc_t34.cell]; rfl, by rw [Bc_t34.cell]; rfl⟩))
        (refine tk 0 ?_; try simp only [Act.put, pa, pb, pc])
        (refine tk 1 ?_; try simp only [Act.put, pa, pb, pc])
        (refine ts 2 ?_; try simp only [Act.put, pa, pb, pc])
        (refine ts 3 ?_; try simp only [Act.put, pa, pb, pc])
        (refine ts 4 ?_; try simp only [Act.put, pa, pb, pc])
        (refine ts 5 ?_; try simp only [Act.put, pa, pb, pc])
        (refine ts 6 ?_; try simp only [Act.put, pa, pb, pc])
        (refine ts 7 ?_; try simp only [Act.put, pa, pb, pc])
        (refine tk 8 ?_; try simp only [Act.put, pa, pb, pc])
        (refine tk 9 ?_; try simp only [Act.put, pa, pb, pc])
        (refine ts 10 ?_; try simp only [Act.put, pa, pb, pc])
        (refine ts 11 ?_; try simp only [Act.put, pa, pb, pc])
        (refine ts 12 ?_; try simp only [Act.put, pa, pb, pc])
        (refine ts 13 ?_; try simp only [Act.put, pa, pb, pc])
        (refine ts 14 ?_; try simp only [Act.put, pa, pb, pc])
        (refine ts 15 ?_; try simp only [Act.put, pa, pb, pc])
        (refine ts 16 ?_; try simp only [Act.put, pa, pb, pc])
        (refine ts 17 ?_; try simp only [Act.put, pa, pb, pc])
        (refine ts 18 ?_; try simp only [Act.put, pa, pb, pc])
        (refine ts 19 ?_; try simp only [Act.put, pa, pb, pc])
        (refine ts 20 ?_; try simp only [Act.put, pa, pb, pc])
        (refine ts 21 ?_; try simp only [Act.put, pa, pb, pc])
        (refine ts 22 ?_; try simp only [Act.put, pa, pb, pc])
        (refine ts 23 ?_; try simp only [Act.put, pa, pb, pc])
        (refine ts 24 ?_; try simp only [Act.put, pa, pb, pc])
        (refine ts 25 ?_; try simp only [Act.put, pa, pb, pc])
        (refine tk 26 ?_; try simp only [Act.put, pa, pb, pc])
        (refine tk 27 ?_; try simp only [Act.put, pa, pb, pc])
        refine wpAnyH_done (by kernel_rfl) ?_ _
        have qBa0 : wr.drew.cell? ⟨w1.heap.size, 0, none⟩ = some (.int .i64 za) := by rw [Ba_t34.cell]; rfl
        have qBa1 : wr.drew.cell? ⟨w1.heap.size, 1, none⟩ = some (.slice ada la.length ca) := by rw [Ba_t34.cell]; rfl
        have qBb0 : wr.drew.cell? ⟨w1.heap.size + 1, 0, none⟩ = some (.int .i64 zb) := by rw [Bb_t34.cell]; rfl
        have qBb1 : wr.drew.cell? ⟨w1.heap.size + 1, 1, none⟩ = some (.slice adb lb.length cb) := by rw [Bb_t34.cell]; rfl
        have qBc0 : wr.drew.cell? ⟨w9.heap.size, 0, none⟩ = some (.int .i64 (za + 1)) := by rw [Bc_t34.cell]; rfl
        have qBc1 : wr.drew.cell? ⟨w9.heap.size, 1, none⟩ = some (.slice ada la.length ca) := by rw [Bc_t34.cell]; rfl
        go_wp2
        go_roundw
        case rel => exact ⟨k + 1, by omega, by go_num, by rw [HE.out], lw0_t35⟩
        case measure => simp [intOf]; omega
      · subst hrb
        obtain ⟨wb, HW1⟩ : ∃ wb, Hid (writesB [xx[k]] = wb) := ⟨_, Lib.hid rfl⟩
        have hwk : IntKind.i64.wrap ((k : Int) + 1) = (k : Int) + 1 := IntWalk.i64_in _ (by omega)
        have hcut := runCutM 44 Try.underlying44 adu xx.length cu k hlt ry1_u
        have hfk : FitXs [xx[k]] := fun r hr => by rw [List.mem_singleton] at hr; subst hr; exact hfx _ (List.getElem_mem hlt)
        cases hwb1 : wb
        · subst hwb1
          have HE : Hid (rightB xx (k + 1) = false) := Lib.hid (by rw [HS.out, HRB.out, HW1.out]; rfl)
          clear HS
          have qBa0 : wr.cell? ⟨w1.heap.size, 0, none⟩ = some (.int .i64 za) := by rw [Ba_t31.cell]; rfl
          have qBa1 : wr.cell? ⟨w1.heap.size, 1, none⟩ = some (.slice ada la.length ca) := by rw [Ba_t31.cell]; rfl
          have qBb0 : wr.cell? ⟨w1.heap.size + 1, 0, none⟩ = some (.int .i64 zb) := by rw [Bb_t31.cell]; rfl
          have qBb1 : wr.cell? ⟨w1.heap.size + 1, 1, none⟩ = some (.slice adb lb.length cb) := by rw [Bb_t31.cell]; rfl
          have qBc0 : wr.cell? ⟨w9.heap.size, 0, none⟩ = some (.int .i64 (za + 1)) := by rw [Bc_t31.cell]; rfl
          have qBc1 : wr.cell? ⟨w9.heap.size, 1, none⟩ = some (.slice ada la.length ca) := by rw [Bc_t31.cell]; rfl
          go_wp2
          clear qBa0 qBa1 qBb0 qBb1 qBc0 qBc1
          have hb_t33 : Below wr.heap.size wr wr.drew := (Below.refl _ _).drew
          have a_t34 := a_t31.next hb_t33
          clear a_t31
          have b_t34 := b_t31.next hb_t33
          clear b_t31
          have u_t34 := u_t31.next hb_t33
          clear u_t31
          have Ba_t34 := Ba_t31.next hb_t33
          clear Ba_t31
          have Bb_t34 := Bb_t31.next hb_t33
          clear Bb_t31
          have Bc_t34 := Bc_t31.next hb_t33
          clear Bc_t31
          have hw_t34 := below_next hw_t31 hb_t33
          have hs_t34 := hb_t33.size
          have lw0_t35 := below_next lq0 hb_t33
          refine wp_region_held_drew (S := (fun W => W.cell? ⟨w1.heap.size, 0, none⟩ = some (.int .i64 za) ∧ W.cell? ⟨w1.heap.size, 1, none⟩ = some (.slice ada la.length ca) ∧ W.cell? ⟨w1.heap.size + 1, 0, none⟩ = some (.int .i64 zb) ∧ W.cell? ⟨w1.heap.size + 1, 1, none⟩ = some (.slice adb lb.length cb) ∧ W.cell? ⟨w9.heap.size, 0, none⟩ = some (.int .i64 (za + 1)) ∧ W.cell? ⟨w9.heap.size, 1, none⟩ = some (.slice ada la.length ca))) (by kernel_rfl) ?_ (fun hHeld => ?_)
          focus ((try dsimp only); (exact ⟨by rw [Ba_t34.cell]; rfl, by rw [Ba_t34.cell]; rfl, by rw [Bb_t34.cell]; rfl, by rw [Bb_t34.cell]; rfl, by rw [Bc_t34.cell]; rfl, by rw [Bc_t34.cell]; rfl⟩))
          (refine tk 0 ?_; try simp only [Act.put, pa, pb, pc])
          (refine tk 1 ?_; try simp only [Act.put, pa, pb, pc])
          (refine tk 2 ?_; try simp only [Act.put, pa, pb, pc])
          (refine tk 3 ?_; try simp only [Act.put, pa, pb, pc])
          (refine tk 4 ?_; try simp only [Act.put, pa, pb, pc])
          (refine tk 5 ?_; try simp only [Act.put, pa, pb, pc])
          (refine tk 6 ?_; try simp only [Act.put, pa, pb, pc])
          (refine rd1 7 (fun K hK => ?_); go_simp; (go_at_call 36; refine (implWritesOk (cutG X adu cu k) (cu - k) [xx[k]] _ hfk (by simp) (rdOneOf (u_t34.rd'.2.2.2) ry1_u hlt)).mono ?_; rintro e w10 ⟨rfl, hb10⟩; rw [HW1.out]; have a_t36 := a_t34.next hb10; clear a_t34; have b_t36 := b_t34.next hb10; clear b_t34; have u_t36 := u_t34.next hb10; clear u_t34; have Ba_t36 := Ba_t34.next hb10; clear Ba_t34; have Bb_t36 := Bb_t34.next hb10; clear Bb_t34; have Bc_t36 := Bc_t34.next hb10; clear Bc_t34; have hw_t36 := below_next hw_t34 hb10; have hs_t36 := hb10.size; have lw0_t37 := below_next lw0_t35 hb10); go_wp2_with fail; refine hK.out _ _ ?_ (fun hHeld => ?_); (focus ((try dsimp only); (exact ⟨by rw [Ba_t36.cell]; rfl, by rw [Ba_t36.cell]; rfl, by rw [Bb_t36.cell]; rfl, by rw [Bb_t36.cell]; rfl, by rw [Bc_t36.cell]; rfl, by rw [Bc_t36.cell]; rfl⟩))); clear hK K; (try simp only [Act.put, pa, pb, pc]))
          (refine tk 8 ?_; try simp only [Act.put, pa, pb, pc])
          (refine tk 9 ?_; try simp only [Act.put, pa, pb, pc])
          (refine ts 10 ?_; try simp only [Act.put, pa, pb, pc])
          (refine ts 11 ?_; try simp only [Act.put, pa, pb, pc])
          (refine ts 12 ?_; try simp only [Act.put, pa, pb, pc])
          (refine ts 13 ?_; try simp only [Act.put, pa, pb, pc])
          (refine ts 14 ?_; try simp only [Act.put, pa, pb, pc])
          (refine ts 15 ?_; try simp only [Act.put, pa, pb, pc])
          (refine ts 16 ?_; try simp only [Act.put, pa, pb, pc])
          (refine ts 17 ?_; try simp only [Act.put, pa, pb, pc])
          (refine ts 18 ?_; try simp only [Act.put, pa, pb, pc])
          (refine ts 19 ?_; try simp only [Act.put, pa, pb, pc])
          (refine ts 20 ?_; try simp only [Act.put, pa, pb, pc])
          (refine ts 21 ?_; try simp only [Act.put, pa, pb, pc])
          (refine ts 22 ?_; try simp only [Act.put, pa, pb, pc])
          (refine ts 23 ?_; try simp only [Act.put, pa, pb, pc])
          (refine ts 24 ?_; try simp only [Act.put, pa, pb, pc])
          (refine ts 25 ?_; try simp only [Act.put, pa, pb, pc])
          (refine tk 26 ?_; try simp only [Act.put, pa, pb, pc])
          (refine tk 27 ?_; try simp only [Act.put, pa, pb, pc])
          refine wpAnyH_done (by kernel_rfl) ?_ _
          have qBa0 : w10.cell? ⟨w1.heap.size, 0, none⟩ = some (.int .i64 za) := by rw [Ba_t36.cell]; rfl
          have qBa1 : w10.cell? ⟨w1.heap.size, 1, none⟩ = some (.slice ada la.length ca) := by rw [Ba_t36.cell]; rfl
          have qBb0 : w10.cell? ⟨w1.heap.size + 1, 0, none⟩ = some (.int .i64 zb) := by rw [Bb_t36.cell]; rfl
          have qBb1 : w10.cell? ⟨w1.heap.size + 1, 1, none⟩ = some (.slice adb lb.length cb) := by rw [Bb_t36.cell]; rfl
          have qBc0 : w10.cell? ⟨w9.heap.size, 0, none⟩ = some (.int .i64 (za + 1)) := by rw [Bc_t36.cell]; rfl
          have qBc1 : w10.cell? ⟨w9.heap.size, 1, none⟩ = some (.slice ada la.length ca) := by rw [Bc_t36.cell]; rfl
          go_wp2
          go_roundw
          case rel => exact ⟨k + 1, by omega, by go_num, by rw [HE.out], lw0_t37⟩
          case measure => simp [intOf]; omega
        · subst hwb1
          by_cases hk0 : k = 0
          · have HE : Hid (rightB xx (k + 1) = true) := Lib.hid (by rw [HS.out, HRB.out, HW1.out, decide_eq_true hk0]; rfl)
            have hkz : ((k : Int) == 0) = true := by simp [hk0]
            clear HS hk0
            have qBa0 : wr.cell? ⟨w1.heap.size, 0, none⟩ = some (.int .i64 za) := by rw [Ba_t31.cell]; rfl
            have qBa1 : wr.cell? ⟨w1.heap.size, 1, none⟩ = some (.slice ada la.length ca) := by rw [Ba_t31.cell]; rfl
            have qBb0 : wr.cell? ⟨w1.heap.size + 1, 0, none⟩ = some (.int .i64 zb) := by rw [Bb_t31.cell]; rfl
            have qBb1 : wr.cell? ⟨w1.heap.size + 1, 1, none⟩ = some (.slice adb lb.length cb) := by rw [Bb_t31.cell]; rfl
            have qBc0 : wr.cell? ⟨w9.heap.size, 0, none⟩ = some (.int .i64 (za + 1)) := by rw [Bc_t31.cell]; rfl
            have qBc1 : wr.cell? ⟨w9.heap.size, 1, none⟩ = some (.slice ada la.length ca) := by rw [Bc_t31.cell]; rfl
            go_wp2
            clear qBa0 qBa1 qBb0 qBb1 qBc0 qBc1
            have hb_t33 : Below wr.heap.size wr wr.drew := (Below.refl _ _).drew
            have a_t34 := a_t31.next hb_t33
            clear a_t31
            have b_t34 := b_t31.next hb_t33
            clear b_t31
            have u_t34 := u_t31.next hb_t33
            clear u_t31
            have Ba_t34 := Ba_t31.next hb_t33
            clear Ba_t31
            have Bb_t34 := Bb_t31.next hb_t33
            clear Bb_t31
            have Bc_t34 := Bc_t31.next hb_t33
            clear Bc_t31
            have hw_t34 := below_next hw_t31 hb_t33
            have hs_t34 := hb_t33.size
            have lw0_t35 := below_next lq0 hb_t33
            refine wp_region_held_drew (S := (fun W => W.cell? ⟨w1.heap.size, 0, none⟩ = some (.int .i64 za) ∧ W.cell? ⟨w1.heap.size, 1, none⟩ = some (.slice ada la.length ca) ∧ W.cell? ⟨w1.heap.size + 1, 0, none⟩ = some (.int .i64 zb) ∧ W.cell? ⟨w1.heap.size + 1, 1, none⟩ = some (.slice adb lb.length cb) ∧ W.cell? ⟨w9.heap.size, 0, none⟩ = some (.int .i64 (za + 1)) ∧ W.cell? ⟨w9.heap.size, 1, none⟩ = some (.slice ada la.length ca))) (by kernel_rfl) ?_ (fun hHeld => ?_)
            focus ((try dsimp only); (exact ⟨by rw [Ba_t34.cell]; rfl, by rw [Ba_t34.cell]; rfl, by rw [Bb_t34.cell]; rfl, by rw [Bb_t34.cell]; rfl, by rw [Bc_t34.cell]; rfl, by rw [Bc_t34.cell]; rfl⟩))
            (refine tk 0 ?_; try simp only [Act.put, pa, pb, pc])
            (refine tk 1 ?_; try simp only [Act.put, pa, pb, pc])
            (refine tk 2 ?_; try simp only [Act.put, pa, pb, pc])
            (refine tk 3 ?_; try simp only [Act.put, pa, pb, pc])
            (refine tk 4 ?_; try simp only [Act.put, pa, pb, pc])
            (refine tk 5 ?_; try simp only [Act.put, pa, pb, pc])
            (refine tk 6 ?_; try simp only [Act.put, pa, pb, pc])
            (refine rd1 7 (fun K hK => ?_); go_simp; (go_at_call 36; refine (implWritesOk (cutG X adu cu k) (cu - k) [xx[k]] _ hfk (by simp) (rdOneOf (u_t34.rd'.2.2.2) ry1_u hlt)).mono ?_; rintro e w10 ⟨rfl, hb10⟩; rw [HW1.out]; have a_t36 := a_t34.next hb10; clear a_t34; have b_t36 := b_t34.next hb10; clear b_t34; have u_t36 := u_t34.next hb10; clear u_t34; have Ba_t36 := Ba_t34.next hb10; clear Ba_t34; have Bb_t36 := Bb_t34.next hb10; clear Bb_t34; have Bc_t36 := Bc_t34.next hb10; clear Bc_t34; have hw_t36 := below_next hw_t34 hb10; have hs_t36 := hb10.size; have lw0_t37 := below_next lw0_t35 hb10); go_wp2_with fail; refine hK.out _ _ ?_ (fun hHeld => ?_); (focus ((try dsimp only); (exact ⟨by rw [Ba_t36.cell]; rfl, by rw [Ba_t36.cell]; rfl, by rw [Bb_t36.cell]; rfl, by rw [Bb_t36.cell]; rfl, by rw [Bc_t36.cell]; rfl, by rw [Bc_t36.cell]; rfl⟩))); clear hK K; (try simp only [Act.put, pa, pb, pc]))
            (refine tk 8 ?_; try simp only [Act.put, pa, pb, pc])
            (refine tk 9 ?_; try simp only [Act.put, pa, pb, pc])
            (refine tk 10 ?_; try simp only [Act.put, pa, pb, pc])
            (refine tk 11 ?_; try simp only [Act.put, pa, pb, pc])
            (refine tk 12 ?_; try simp only [Act.put, pa, pb, pc])
            (refine ts 13 ?_; try simp only [Act.put, pa, pb, pc])
            (refine ts 14 ?_; try simp only [Act.put, pa, pb, pc])
            (refine ts 15 ?_; try simp only [Act.put, pa, pb, pc])
            (refine ts 16 ?_; try simp only [Act.put, pa, pb, pc])
            (refine ts 17 ?_; try simp only [Act.put, pa, pb, pc])
            (refine ts 18 ?_; try simp only [Act.put, pa, pb, pc])
            (refine ts 19 ?_; try simp only [Act.put, pa, pb, pc])
            (refine ts 20 ?_; try simp only [Act.put, pa, pb, pc])
            (refine ts 21 ?_; try simp only [Act.put, pa, pb, pc])
            (refine ts 22 ?_; try simp only [Act.put, pa, pb, pc])
            (refine ts 23 ?_; try simp only [Act.put, pa, pb, pc])
            (refine ts 24 ?_; try simp only [Act.put, pa, pb, pc])
            (refine tk 25 ?_; try simp only [Act.put, pa, pb, pc])
            (refine tk 26 ?_; try simp only [Act.put, pa, pb, pc])
            (refine tk 27 ?_; try simp only [Act.put, pa, pb, pc])
            refine wpAnyH_done (by kernel_rfl) ?_ _
            have qBa0 : w10.cell? ⟨w1.heap.size, 0, none⟩ = some (.int .i64 za) := by rw [Ba_t36.cell]; rfl
            have qBa1 : w10.cell? ⟨w1.heap.size, 1, none⟩ = some (.slice ada la.length ca) := by rw [Ba_t36.cell]; rfl
            have qBb0 : w10.cell? ⟨w1.heap.size + 1, 0, none⟩ = some (.int .i64 zb) := by rw [Bb_t36.cell]; rfl
            have qBb1 : w10.cell? ⟨w1.heap.size + 1, 1, none⟩ = some (.slice adb lb.length cb) := by rw [Bb_t36.cell]; rfl
            have qBc0 : w10.cell? ⟨w9.heap.size, 0, none⟩ = some (.int .i64 (za + 1)) := by rw [Bc_t36.cell]; rfl
            have qBc1 : w10.cell? ⟨w9.heap.size, 1, none⟩ = some (.slice ada la.length ca) := by rw [Bc_t36.cell]; rfl
            go_wp2
            go_roundw
            case rel => exact ⟨k + 1, by omega, by go_num, by rw [HE.out], lw0_t37⟩
            case measure => simp [intOf]; omega
          · have hkz : ((k : Int) == 0) = false := by simp; omega
            have hk1 : k - 1 < xx.length := by omega
            have hk1I := lenI _ _ hk1
            have hwk1 : IntKind.i64.wrap ((k : Int) - 1) = ((k - 1 : Nat) : Int) := by rw [IntWalk.i64_in _ (by omega)]; omega
            obtain ⟨lb1, HL⟩ : ∃ lb1, Hid (lt xx[k - 1].k xx[k].k = lb1) := ⟨_, Lib.hid rfl⟩
            have HE : Hid (rightB xx (k + 1) = lb1) := Lib.hid (by rw [HS.out, HRB.out, HW1.out, HL.out, decide_eq_false hk0]; cases lb1 <;> rfl)
            have hlt1 : Op.bytesLess xx[k - 1].k.toList xx[k].k.toList = lb1 := HL.out
            clear HS
            obtain ⟨ebE, eoE, rfl, hqE, _⟩ := (u_t31.rd'.2.2.2).atX hlt
            clear hqE
            have qBa0 : wr.cell? ⟨w1.heap.size, 0, none⟩ = some (.int .i64 za) := by rw [Ba_t31.cell]; rfl
            have qBa1 : wr.cell? ⟨w1.heap.size, 1, none⟩ = some (.slice ada la.length ca) := by rw [Ba_t31.cell]; rfl
            have qBb0 : wr.cell? ⟨w1.heap.size + 1, 0, none⟩ = some (.int .i64 zb) := by rw [Bb_t31.cell]; rfl
            have qBb1 : wr.cell? ⟨w1.heap.size + 1, 1, none⟩ = some (.slice adb lb.length cb) := by rw [Bb_t31.cell]; rfl
            have qBc0 : wr.cell? ⟨w9.heap.size, 0, none⟩ = some (.int .i64 (za + 1)) := by rw [Bc_t31.cell]; rfl
            have qBc1 : wr.cell? ⟨w9.heap.size, 1, none⟩ = some (.slice ada la.length ca) := by rw [Bc_t31.cell]; rfl
            have qE0 : wr.cell? ⟨ebE, eoE + k * 3, none⟩ = some (.string xx[k].k) := ((u_t31.rd'.2.2.2).fixX rfl hlt).1
            have qE1 : wr.cell? ⟨ebE, eoE + k * 3 + 1, none⟩ = some (.int .i64 xx[k].n) := ((u_t31.rd'.2.2.2).fixX rfl hlt).2.1
            have qE2 : wr.cell? ⟨ebE, eoE + k * 3 + 2, none⟩ = some (.bool xx[k].g) := ((u_t31.rd'.2.2.2).fixX rfl hlt).2.2
            have qF0 : wr.cell? ⟨ebE, eoE + (k - 1) * 3, none⟩ = some (.string xx[(k - 1)].k) := ((u_t31.rd'.2.2.2).fixX rfl hk1).1
            have qF1 : wr.cell? ⟨ebE, eoE + (k - 1) * 3 + 1, none⟩ = some (.int .i64 xx[(k - 1)].n) := ((u_t31.rd'.2.2.2).fixX rfl hk1).2.1
            have qF2 : wr.cell? ⟨ebE, eoE + (k - 1) * 3 + 2, none⟩ = some (.bool xx[(k - 1)].g) := ((u_t31.rd'.2.2.2).fixX rfl hk1).2.2
            go_wp2
            clear qBa0 qBa1 qBb0 qBb1 qBc0 qBc1
            clear qE0 qE1 qE2
            clear qF0 qF1 qF2
            have hb_t33 : Below wr.heap.size wr wr.drew := (Below.refl _ _).drew
            have a_t34 := a_t31.next hb_t33
            clear a_t31
            have b_t34 := b_t31.next hb_t33
            clear b_t31
            have u_t34 := u_t31.next hb_t33
            clear u_t31
            have Ba_t34 := Ba_t31.next hb_t33
            clear Ba_t31
            have Bb_t34 := Bb_t31.next hb_t33
            clear Bb_t31
            have Bc_t34 := Bc_t31.next hb_t33
            clear Bc_t31
            have hw_t34 := below_next hw_t31 hb_t33
            have hs_t34 := hb_t33.size
            have lw0_t35 := below_next lq0 hb_t33
            refine wp_region_held_drew (S := (fun W => W.cell? ⟨w1.heap.size, 0, none⟩ = some (.int .i64 za) ∧ W.cell? ⟨w1.heap.size, 1, none⟩ = some (.slice ada la.length ca) ∧ W.cell? ⟨w1.heap.size + 1, 0, none⟩ = some (.int .i64 zb) ∧ W.cell? ⟨w1.heap.size + 1, 1, none⟩ = some (.slice adb lb.length cb) ∧ W.cell? ⟨w9.heap.size, 0, none⟩ = some (.int .i64 (za + 1)) ∧ W.cell? ⟨w9.heap.size, 1, none⟩ = some (.slice ada la.length ca) ∧ W.cell? ⟨ebE, eoE + k * 3, none⟩ = some (.string xx[k].k) ∧ W.cell? ⟨ebE, eoE + k * 3 + 1, none⟩ = some (.int .i64 xx[k].n) ∧ W.cell? ⟨ebE, eoE + k * 3 + 2, none⟩ = some (.bool xx[k].g) ∧ W.cell? ⟨ebE, eoE + (k - 1) * 3, none⟩ = some (.string xx[(k - 1)].k) ∧ W.cell? ⟨ebE, eoE + (k - 1) * 3 + 1, none⟩ = some (.int .i64 xx[(k - 1)].n) ∧ W.cell? ⟨ebE, eoE + (k - 1) * 3 + 2, none⟩ = some (.bool xx[(k - 1)].g))) (by kernel_rfl) ?_ (fun hHeld => ?_)
            focus ((try dsimp only); (exact ⟨by rw [Ba_t34.cell]; rfl, by rw [Ba_t34.cell]; rfl, by rw [Bb_t34.cell]; rfl, by rw [Bb_t34.cell]; rfl, by rw [Bc_t34.cell]; rfl, by rw [Bc_t34.cell]; rfl, ((u_t34.rd'.2.2.2).fixX rfl hlt).1, ((u_t34.rd'.2.2.2).fixX rfl hlt).2.1, ((u_t34.rd'.2.2.2).fixX rfl hlt).2.2, ((u_t34.rd'.2.2.2).fixX rfl hk1).1, ((u_t34.rd'.2.2.2).fixX rfl hk1).2.1, ((u_t34.rd'.2.2.2).fixX rfl hk1).2.2⟩))
            (refine tk 0 ?_; try simp only [Act.put, pa, pb, pc])
            (refine tk 1 ?_; try simp only [Act.put, pa, pb, pc])
            (refine tk 2 ?_; try simp only [Act.put, pa, pb, pc])
            (refine tk 3 ?_; try simp only [Act.put, pa, pb, pc])
            (refine tk 4 ?_; try simp only [Act.put, pa, pb, pc])
            (refine tk 5 ?_; try simp only [Act.put, pa, pb, pc])
            (refine tk 6 ?_; try simp only [Act.put, pa, pb, pc])
            (refine rd1 7 (fun K hK => ?_); go_simp; (go_at_call 36; refine (implWritesOk (cutG X (some ⟨ebE, eoE, none⟩) cu k) (cu - k) [xx[k]] _ hfk (by simp) (rdOneOf (u_t34.rd'.2.2.2) ry1_u hlt)).mono ?_; rintro e w10 ⟨rfl, hb10⟩; rw [HW1.out]; have a_t36 := a_t34.next hb10; clear a_t34; have b_t36 := b_t34.next hb10; clear b_t34; have u_t36 := u_t34.next hb10; clear u_t34; have Ba_t36 := Ba_t34.next hb10; clear Ba_t34; have Bb_t36 := Bb_t34.next hb10; clear Bb_t34; have Bc_t36 := Bc_t34.next hb10; clear Bc_t34; have hw_t36 := below_next hw_t34 hb10; have hs_t36 := hb10.size; have lw0_t37 := below_next lw0_t35 hb10); go_wp2_with fail; refine hK.out _ _ ?_ (fun hHeld => ?_); (focus ((try dsimp only); (exact ⟨by rw [Ba_t36.cell]; rfl, by rw [Ba_t36.cell]; rfl, by rw [Bb_t36.cell]; rfl, by rw [Bb_t36.cell]; rfl, by rw [Bc_t36.cell]; rfl, by rw [Bc_t36.cell]; rfl, ((u_t36.rd'.2.2.2).fixX rfl hlt).1, ((u_t36.rd'.2.2.2).fixX rfl hlt).2.1, ((u_t36.rd'.2.2.2).fixX rfl hlt).2.2, ((u_t36.rd'.2.2.2).fixX rfl hk1).1, ((u_t36.rd'.2.2.2).fixX rfl hk1).2.1, ((u_t36.rd'.2.2.2).fixX rfl hk1).2.2⟩))); clear hK K; (try simp only [Act.put, pa, pb, pc]))
            (refine tk 8 ?_; try simp only [Act.put, pa, pb, pc])
            (refine tk 9 ?_; try simp only [Act.put, pa, pb, pc])
            (refine tk 10 ?_; try simp only [Act.put, pa, pb, pc])
            (refine tk 11 ?_; try simp only [Act.put, pa, pb, pc])
            (refine tk 12 ?_; try simp only [Act.put, pa, pb, pc])
            (refine tk 13 ?_; try simp only [Act.put, pa, pb, pc])
            (refine tk 14 ?_; try simp only [Act.put, pa, pb, pc])
            (refine tk 15 ?_; try simp only [Act.put, pa, pb, pc])
            (refine tk 16 ?_; try simp only [Act.put, pa, pb, pc])
            (refine tk 17 ?_; try simp only [Act.put, pa, pb, pc])
            (refine tk 18 ?_; try simp only [Act.put, pa, pb, pc])
            (refine tk 19 ?_; try simp only [Act.put, pa, pb, pc])
            (refine tk 20 ?_; try simp only [Act.put, pa, pb, pc])
            (refine tk 21 ?_; try simp only [Act.put, pa, pb, pc])
            (refine tk 22 ?_; try simp only [Act.put, pa, pb, pc])
            (refine tk 23 ?_; try simp only [Act.put, pa, pb, pc])
            (refine tk 24 ?_; try simp only [Act.put, pa, pb, pc])
            (refine tk 25 ?_; try simp only [Act.put, pa, pb, pc])
            (refine tk 26 ?_; try simp only [Act.put, pa, pb, pc])
            (refine tk 27 ?_; try simp only [Act.put, pa, pb, pc])
            refine wpAnyH_done (by kernel_rfl) ?_ _
            have qBa0 : w10.cell? ⟨w1.heap.size, 0, none⟩ = some (.int .i64 za) := by rw [Ba_t36.cell]; rfl
            have qBa1 : w10.cell? ⟨w1.heap.size, 1, none⟩ = some (.slice ada la.length ca) := by rw [Ba_t36.cell]; rfl
            have qBb0 : w10.cell? ⟨w1.heap.size + 1, 0, none⟩ = some (.int .i64 zb) := by rw [Bb_t36.cell]; rfl
            have qBb1 : w10.cell? ⟨w1.heap.size + 1, 1, none⟩ = some (.slice adb lb.length cb) := by rw [Bb_t36.cell]; rfl
            have qBc0 : w10.cell? ⟨w9.heap.size, 0, none⟩ = some (.int .i64 (za + 1)) := by rw [Bc_t36.cell]; rfl
            have qBc1 : w10.cell? ⟨w9.heap.size, 1, none⟩ = some (.slice ada la.length ca) := by rw [Bc_t36.cell]; rfl
            have qE0 : w10.cell? ⟨ebE, eoE + k * 3, none⟩ = some (.string xx[k].k) := ((u_t36.rd'.2.2.2).fixX rfl hlt).1
            have qE1 : w10.cell? ⟨ebE, eoE + k * 3 + 1, none⟩ = some (.int .i64 xx[k].n) := ((u_t36.rd'.2.2.2).fixX rfl hlt).2.1
            have qE2 : w10.cell? ⟨ebE, eoE + k * 3 + 2, none⟩ = some (.bool xx[k].g) := ((u_t36.rd'.2.2.2).fixX rfl hlt).2.2
            have qF0 : w10.cell? ⟨ebE, eoE + (k - 1) * 3, none⟩ = some (.string xx[(k - 1)].k) := ((u_t36.rd'.2.2.2).fixX rfl hk1).1
            have qF1 : w10.cell? ⟨ebE, eoE + (k - 1) * 3 + 1, none⟩ = some (.int .i64 xx[(k - 1)].n) := ((u_t36.rd'.2.2.2).fixX rfl hk1).2.1
            have qF2 : w10.cell? ⟨ebE, eoE + (k - 1) * 3 + 2, none⟩ = some (.bool xx[(k - 1)].g) := ((u_t36.rd'.2.2.2).fixX rfl hk1).2.2
            go_wp2
            go_roundw
            case rel => exact ⟨k + 1, by omega, by go_num, by rw [HE.out], lw0_t37⟩
            case measure => simp [intOf]; omega
    · have hkI : decide ((k : Int) < (xx.length : Int)) = false := decide_eq_false (by omega)
      have e : rb = WB := HRB.out.symm.trans ((rightB_all (by omega)).trans HWB.out)
      subst e
      have hrr : (rb == rb) = true := by cases rb <;> rfl
      have HL := Lib.hid (sameB_later za la)
      have qBa0 : wr.cell? ⟨w1.heap.size, 0, none⟩ = some (.int .i64 za) := by rw [Ba_t31.cell]; rfl
      have qBa1 : wr.cell? ⟨w1.heap.size, 1, none⟩ = some (.slice ada la.length ca) := by rw [Ba_t31.cell]; rfl
      have qBb0 : wr.cell? ⟨w1.heap.size + 1, 0, none⟩ = some (.int .i64 zb) := by rw [Bb_t31.cell]; rfl
      have qBb1 : wr.cell? ⟨w1.heap.size + 1, 1, none⟩ = some (.slice adb lb.length cb) := by rw [Bb_t31.cell]; rfl
      have qBc0 : wr.cell? ⟨w9.heap.size, 0, none⟩ = some (.int .i64 (za + 1)) := by rw [Bc_t31.cell]; rfl
      have qBc1 : wr.cell? ⟨w9.heap.size, 1, none⟩ = some (.slice ada la.length ca) := by rw [Bc_t31.cell]; rfl
      go_wp2_with fail
      clear qBa0 qBa1 qBb0 qBb1 qBc0 qBc1
      refine (implSameO a_t31 a_t31 (by omega) (by omega)).mono ?_
      rintro e w10 ⟨rfl, hb10⟩
      rw [HL.out]
      have a_t33 := a_t31.next hb10
      clear a_t31
      have b_t33 := b_t31.next hb10
      clear b_t31
      have u_t33 := u_t31.next hb10
      clear u_t31
      have Ba_t33 := Ba_t31.next hb10
      clear Ba_t31
      have Bb_t33 := Bb_t31.next hb10
      clear Bb_t31
      have Bc_t33 := Bc_t31.next hb10
      clear Bc_t31
      have hw_t33 := below_next hw_t31 hb10
      have hs_t33 := hb10.size
      have lw0_t34 := below_next lq0 hb10
      have qBa0 : w10.cell? ⟨w1.heap.size, 0, none⟩ = some (.int .i64 za) := by rw [Ba_t33.cell]; rfl
      have qBa1 : w10.cell? ⟨w1.heap.size, 1, none⟩ = some (.slice ada la.length ca) := by rw [Ba_t33.cell]; rfl
      have qBb0 : w10.cell? ⟨w1.heap.size + 1, 0, none⟩ = some (.int .i64 zb) := by rw [Bb_t33.cell]; rfl
      have qBb1 : w10.cell? ⟨w1.heap.size + 1, 1, none⟩ = some (.slice adb lb.length cb) := by rw [Bb_t33.cell]; rfl
      have qBc0 : w10.cell? ⟨w9.heap.size, 0, none⟩ = some (.int .i64 (za + 1)) := by rw [Bc_t33.cell]; rfl
      have qBc1 : w10.cell? ⟨w9.heap.size, 1, none⟩ = some (.slice ada la.length ca) := by rw [Bc_t33.cell]; rfl
      go_wp2_with fail
      clear qBa0 qBa1 qBb0 qBb1 qBc0 qBc1
      refine (implWritesOkO u_t33 hfx (by omega)).mono ?_
      rintro e w11 ⟨rfl, hb11⟩
      rw [HWB.out]
      have a_t35 := a_t33.next hb11
      clear a_t33
      have b_t35 := b_t33.next hb11
      clear b_t33
      have u_t35 := u_t33.next hb11
      clear u_t33
      have Ba_t35 := Ba_t33.next hb11
      clear Ba_t33
      have Bb_t35 := Bb_t33.next hb11
      clear Bb_t33
      have Bc_t35 := Bc_t33.next hb11
      clear Bc_t33
      have hw_t35 := below_next hw_t33 hb11
      have hs_t35 := hb11.size
      have lw0_t36 := below_next lw0_t34 hb11
      have qBa0 : w11.cell? ⟨w1.heap.size, 0, none⟩ = some (.int .i64 za) := by rw [Ba_t35.cell]; rfl
      have qBa1 : w11.cell? ⟨w1.heap.size, 1, none⟩ = some (.slice ada la.length ca) := by rw [Ba_t35.cell]; rfl
      have qBb0 : w11.cell? ⟨w1.heap.size + 1, 0, none⟩ = some (.int .i64 zb) := by rw [Bb_t35.cell]; rfl
      have qBb1 : w11.cell? ⟨w1.heap.size + 1, 1, none⟩ = some (.slice adb lb.length cb) := by rw [Bb_t35.cell]; rfl
      have qBc0 : w11.cell? ⟨w9.heap.size, 0, none⟩ = some (.int .i64 (za + 1)) := by rw [Bc_t35.cell]; rfl
      have qBc1 : w11.cell? ⟨w9.heap.size, 1, none⟩ = some (.slice ada la.length ca) := by rw [Bc_t35.cell]; rfl
      go_wp2
      go_ret
      exact ⟨rfl, hw_t35⟩

set_option maxRecDepth 100000 in
theorem lifted (os : Os) (started : os.Started) (H : Type) (enc : TypeId × Value → H) :
    ReturnsInHanded {} Try.checked os 15 .any (Rows.fnVersSameSpec.pre6 enc Try.prog Try.f15 Rows.fnVersSameRow.domain false) (Rows.fnVersSameSpec.post enc Try.prog Try.f15 false true false false) := by
  refine returnsInHanded_of_change (C := Try.checked) Whole.own started (by kernel_rfl) Try.func15
    (ChangeSpec.witness6 (enc := enc) (C := Try.checked) false ⟨#[], #[.slice none 0 0], []⟩ 8 (by kernel_rfl) (by kernel_rfl) (by kernel_rfl) (by kernel_rfl)) ?_
  intro W base args ds gs before hval0 hW hcnd _
  have hval : ∀ (j : Nat) t v, Try.f15.params[j]? = some t → args[j]? = some v → Value.okWide Try.prog W .any base t v := hval0
  have hW' := hW
  obtain ⟨p, q, hA0, hV, rfl, hfz, hnd⟩ := hW
  have hA : DataW.TrodAll enc Try.prog W 0 (fun _ => true) true Try.f15.params.toList args.toList ds p := hA0
  rw [Try.params15] at hA hval
  obtain ⟨v0, vs0, d0, ds0, p0, q0, hargs, rfl, rfl, h0, r0⟩ := trodAll_cons hA
  obtain ⟨rfl, rfl, rfl⟩ := trodAll_nil r0
  obtain rfl : args = #[v0] := by cases args; simp_all
  obtain ⟨rfl, rfl⟩ := trodVars_none hV
  have k0 := h0
  have lt0 : ∀ x ∈ p0, x.block < W.heap.size := by obtain ⟨m, hm⟩ := k0; exact DataW.trod_lt m _ _ _ hm
  obtain ⟨A0, n0, c0, rfl, hc0, hm0, hr0⟩ := openBytes (hval 0 54 v0 rfl rfl) h0
  clear hA0 hval0
  refine (walk A0 n0 c0 W hc0 hm0 hr0).mono fun e W' ⟨he, bel⟩ => ?_
  subst he
  exact ⟨_, rfl, _, _, _, [], _, [], hW', trodAll_mk1 (shut_bool Try.underlying4 _), (trodAll_cons_mk (Below.trod Whole.laidOut (by kernel_rfl) (of_decide_eq_true (by kernel_rfl)) k0 bel lt0) trodAll_mk0), rfl, bel.frame _, fun h => by cases h⟩

theorem named : Try.prog.funcNamed Rows.fnVersSameRow.func = some 15 := by kernel_rfl
theorem closed : Whole.lawFacts Try.prog 15 Try.f15 Rows.fnVersSameSpec Rows.fnVersSameRow = true := by kernel_rfl
theorem inst : Try.f15.isInstance Try.prog Rows.fnVersSameRow.origin Rows.fnVersSameRow.targs := of_decide_eq_true (by kernel_rfl)
theorem wrap : Try.f15.isWrapper Try.prog Rows.fnVersSameRow.wrapper Rows.fnVersSameRow.mainSum := by
  unfold Func.isWrapper; first | (rw [if_pos (by decide +kernel)]; kernel_rfl) | (rw [if_neg (by decide +kernel)]; exact ⟨rfl, rfl⟩)
theorem over : Rows.fnVersSameRow.holds Try.pinned (OpenSpec.ofChange Rows.fnVersSameSpec) :=
  OpenClaim.holds_of_wide 15 Try.f15 rfl rfl rfl rfl rfl rfl rfl ⟨rfl, rfl, rfl, rfl, rfl⟩ rfl rfl rfl rfl rfl named Try.func15 (Whole.facts_of closed)
    inst wrap (fun os started H enc _ => lifted os started H enc)

theorem proved : Rows.FnVersSameSaid := over
#print axioms proved
end Go.Proofs.Ytbhdgalkedegjaa.fnVersSame
