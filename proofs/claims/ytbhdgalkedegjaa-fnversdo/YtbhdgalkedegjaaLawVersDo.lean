/- The law FnVersDo: for every code that is drawn from, what stood at a time stands at it for ever: what is done turns the rows from now on alone, and just as it says, as in the model: for every input the call returns true, and the argument reads afterwards as before. No conditions. -/
import Derived.Test.YtbhdgalkedegjaaRows
import Derived.Test.YtbhdgalkedegjaaWhole
import Derived.Test.YtbhdgalkedegjaaA1
import Derived.Test.YtbhdgalkedegjaaDv5
import Derived.Test.YtbhdgalkedegjaaM2d
import Derived.Test.YtbhdgalkedegjaaS2s
import Derived.Test.YtbhdgalkedegjaaA4
import Derived.WalkKit
import Derived.ProofKit
import Derived.OpenShut
import Derived.ShutString
import Derived.ChangeOld
import Derived.Below
namespace Go.Proofs.Ytbhdgalkedegjaa.fnVersDo
open Go.ChangeShapes Go.WideShapes Go.ChangeAt Go.RowKit
open Go.ChangeMaps (open_string shut_string)
set_option linter.unusedVariables false

set_option maxRecDepth 100000 in
set_option maxHeartbeats 1000000 in
theorem walk (A0 : Option Addr) (n0 c0 : Nat) (w : World) (hc0 : n0 ≤ c0) (hm0 : c0 ≤ maxLen) (hr0 : RdB w w.heap.size A0 n0) :
    Calls Try.prog 10 #[.slice A0 n0 c0] w fun e w' => e = .returned (.bool true) ∧ Below w.heap.size w w' := by
  by_cases hn_n0 : (1048576 : Int) < (n0 : Int)
  · go_enter Try.func10, Try.ntmps10
    go_wp2
    go_ret
    exact ⟨rfl, Below.refl _ _⟩
  go_enter Try.func10, Try.ntmps10
  go_wp2_with fail
  refine (drawVersDo A0 n0 c0 w hc0 hm0 hr0).mono ?_
  rintro e w1 ⟨za, Va, la, Ua, xa, rfl, a_n, hfa, hza, hla, ua_n, hfxa, hlxa, hb1⟩
  obtain ⟨ada, ca, rfl, ry1_a, ry2_a, ry3_a⟩ := a_n.read
  clear ry1_a ry2_a ry3_a
  obtain ⟨adua, cua, rfl, ry1_ua, ry2_ua, ry3_ua⟩ := ua_n.read
  clear ry1_ua ry2_ua ry3_ua
  have hw_t1 := hb1
  have hs_t1 := hb1.size
  have hb_t3 := below_alloc (Below.refl _ w1) (.cells #[.int .i64 za, .slice ada la.length ca] 29)
  have Ba_t3 := blkA w1 #[.int .i64 za, .slice ada la.length ca] 29
  have hz_t3 : (w1.alloc (.cells #[.int .i64 za, .slice ada la.length ca] 29)).heap.size = w1.heap.size + 1 := World.size_alloc _ _
  have a_t4 := a_n.next hb_t3
  clear a_n
  have ua_t4 := ua_n.next hb_t3
  clear ua_n
  have hw_t4 := below_next hw_t1 hb_t3
  have hs_t4 := hb_t3.size
  have hdl := doL_len za la xa (by omega)
  obtain ⟨RZ, RL, RB, HRR⟩ : ∃ RZ RL RB, Hid (doZ za la xa = RZ ∧ doL za la xa = RL ∧ doB za la xa = RB) := ⟨_, _, _, Lib.hid ⟨rfl, rfl, rfl⟩⟩
  rw [HRR.out.2.1] at hdl
  have qBa0 : (w1.alloc (.cells #[.int .i64 za, .slice ada la.length ca] 29)).cell? ⟨w1.heap.size, 0, none⟩ = some (.int .i64 za) := by rw [Ba_t3.cell]; rfl
  have qBa1 : (w1.alloc (.cells #[.int .i64 za, .slice ada la.length ca] 29)).cell? ⟨w1.heap.size, 1, none⟩ = some (.slice ada la.length ca) := by rw [Ba_t3.cell]; rfl
  go_wp2_with fail
  clear qBa0 qBa1
  refine (implVersDoO a_t4 ua_t4 hfa hfxa (by omega) (by omega)).mono ?_
  rw [HRR.out.1, HRR.out.2.1, HRR.out.2.2]
  rintro e w2 ⟨Vx, rfl, x_n, hb2⟩
  obtain ⟨adx, cx, rfl, ry1_x, ry2_x, ry3_x⟩ := x_n.read
  clear ry1_x ry2_x ry3_x
  have a_t6 := a_t4.next hb2
  clear a_t4
  have ua_t6 := ua_t4.next hb2
  clear ua_t4
  have Ba_t6 := Ba_t3.next hb2
  clear Ba_t3
  have hw_t6 := below_next hw_t4 hb2
  have hs_t6 := hb2.size
  have hb_t8 := below_alloc (Below.refl _ w2) (.cells #[.int .i64 RZ, .slice adx RL.length cx] 29)
  have Bx_t8 := blkA w2 #[.int .i64 RZ, .slice adx RL.length cx] 29
  have hz_t8 : (w2.alloc (.cells #[.int .i64 RZ, .slice adx RL.length cx] 29)).heap.size = w2.heap.size + 1 := World.size_alloc _ _
  have a_t9 := a_t6.next hb_t8
  clear a_t6
  have ua_t9 := ua_t6.next hb_t8
  clear ua_t6
  have x_t9 := x_n.next hb_t8
  clear x_n
  have Ba_t9 := Ba_t6.next hb_t8
  clear Ba_t6
  have hw_t9 := below_next hw_t6 hb_t8
  have hs_t9 := hb_t8.size
  have qBa0 : (w2.alloc (.cells #[.int .i64 RZ, .slice adx RL.length cx] 29)).cell? ⟨w1.heap.size, 0, none⟩ = some (.int .i64 za) := by rw [Ba_t9.cell]; rfl
  have qBa1 : (w2.alloc (.cells #[.int .i64 RZ, .slice adx RL.length cx] 29)).cell? ⟨w1.heap.size, 1, none⟩ = some (.slice ada la.length ca) := by rw [Ba_t9.cell]; rfl
  have qBx0 : (w2.alloc (.cells #[.int .i64 RZ, .slice adx RL.length cx] 29)).cell? ⟨w2.heap.size, 0, none⟩ = some (.int .i64 RZ) := by rw [Bx_t8.cell]; rfl
  have qBx1 : (w2.alloc (.cells #[.int .i64 RZ, .slice adx RL.length cx] 29)).cell? ⟨w2.heap.size, 1, none⟩ = some (.slice adx RL.length cx) := by rw [Bx_t8.cell]; rfl
  go_wp2_with fail
  clear qBa0 qBa1 qBx0 qBx1
  refine (specVersDoO a_t9 ua_t9 hfa hfxa (by omega)).mono ?_
  rw [HRR.out.1, HRR.out.2.1, HRR.out.2.2]
  rintro e w3 ⟨Vy, rfl, y_n, hb3⟩
  obtain ⟨ady, cy, rfl, ry1_y, ry2_y, ry3_y⟩ := y_n.read
  clear ry1_y ry2_y ry3_y
  have a_t11 := a_t9.next hb3
  clear a_t9
  have ua_t11 := ua_t9.next hb3
  clear ua_t9
  have x_t11 := x_t9.next hb3
  clear x_t9
  have Ba_t11 := Ba_t9.next hb3
  clear Ba_t9
  have Bx_t11 := Bx_t8.next hb3
  clear Bx_t8
  have hw_t11 := below_next hw_t9 hb3
  have hs_t11 := hb3.size
  have hb_t13 := below_alloc (Below.refl _ w3) (.cells #[.int .i64 RZ, .slice ady RL.length cy] 29)
  have By_t13 := blkA w3 #[.int .i64 RZ, .slice ady RL.length cy] 29
  have hz_t13 : (w3.alloc (.cells #[.int .i64 RZ, .slice ady RL.length cy] 29)).heap.size = w3.heap.size + 1 := World.size_alloc _ _
  have a_t14 := a_t11.next hb_t13
  clear a_t11
  have ua_t14 := ua_t11.next hb_t13
  clear ua_t11
  have x_t14 := x_t11.next hb_t13
  clear x_t11
  have y_t14 := y_n.next hb_t13
  clear y_n
  have Ba_t14 := Ba_t11.next hb_t13
  clear Ba_t11
  have Bx_t14 := Bx_t11.next hb_t13
  clear Bx_t11
  have hw_t14 := below_next hw_t11 hb_t13
  have hs_t14 := hb_t13.size
  cases hc : RB
  · subst hc
    rcases do_false HRR.out.2.2 with ⟨hv, e1, e2⟩ | ⟨hv, e1, e2⟩
    · have f1 : za = RZ := e1.symm.trans HRR.out.1
      have f2 : la = RL := e2.symm.trans HRR.out.2.1
      clear e1 e2 HRR
      subst f1 f2
      have qBa0 : (w3.alloc (.cells #[.int .i64 za, .slice ady la.length cy] 29)).cell? ⟨w1.heap.size, 0, none⟩ = some (.int .i64 za) := by rw [Ba_t14.cell]; rfl
      have qBa1 : (w3.alloc (.cells #[.int .i64 za, .slice ady la.length cy] 29)).cell? ⟨w1.heap.size, 1, none⟩ = some (.slice ada la.length ca) := by rw [Ba_t14.cell]; rfl
      have qBx0 : (w3.alloc (.cells #[.int .i64 za, .slice ady la.length cy] 29)).cell? ⟨w2.heap.size, 0, none⟩ = some (.int .i64 za) := by rw [Bx_t14.cell]; rfl
      have qBx1 : (w3.alloc (.cells #[.int .i64 za, .slice ady la.length cy] 29)).cell? ⟨w2.heap.size, 1, none⟩ = some (.slice adx la.length cx) := by rw [Bx_t14.cell]; rfl
      have qBy0 : (w3.alloc (.cells #[.int .i64 za, .slice ady la.length cy] 29)).cell? ⟨w3.heap.size, 0, none⟩ = some (.int .i64 za) := by rw [By_t13.cell]; rfl
      have qBy1 : (w3.alloc (.cells #[.int .i64 za, .slice ady la.length cy] 29)).cell? ⟨w3.heap.size, 1, none⟩ = some (.slice ady la.length cy) := by rw [By_t13.cell]; rfl
      go_wp2
      clear qBa0 qBa1 qBx0 qBx1 qBy0 qBy1
      have hb_t16 : Below (w3.alloc (.cells #[.int .i64 za, .slice ady la.length cy] 29)).heap.size (w3.alloc (.cells #[.int .i64 za, .slice ady la.length cy] 29)) (w3.alloc (.cells #[.int .i64 za, .slice ady la.length cy] 29)).drew := (Below.refl _ _).drew
      have a_t17 := a_t14.next hb_t16
      clear a_t14
      have ua_t17 := ua_t14.next hb_t16
      clear ua_t14
      have x_t17 := x_t14.next hb_t16
      clear x_t14
      have y_t17 := y_t14.next hb_t16
      clear y_t14
      have Ba_t17 := Ba_t14.next hb_t16
      clear Ba_t14
      have Bx_t17 := Bx_t14.next hb_t16
      clear Bx_t14
      have By_t17 := By_t13.next hb_t16
      clear By_t13
      have hw_t17 := below_next hw_t14 hb_t16
      have hs_t17 := hb_t16.size
      refine wp_region_held_drew (S := (fun W => W.cell? ⟨w1.heap.size, 0, none⟩ = some (.int .i64 za) ∧ W.cell? ⟨w1.heap.size, 1, none⟩ = some (.slice ada la.length ca) ∧ W.cell? ⟨w2.heap.size, 0, none⟩ = some (.int .i64 za) ∧ W.cell? ⟨w2.heap.size, 1, none⟩ = some (.slice adx la.length cx) ∧ W.cell? ⟨w3.heap.size, 0, none⟩ = some (.int .i64 za) ∧ W.cell? ⟨w3.heap.size, 1, none⟩ = some (.slice ady la.length cy))) (by kernel_rfl) ?_ (fun hHeld => ?_)
      focus ((try dsimp only); (exact ⟨by rw [Ba_t17.cell]; rfl, by rw [Ba_t17.cell]; rfl, by rw [Bx_t17.cell]; rfl, by rw [Bx_t17.cell]; rfl, by rw [By_t17.cell]; rfl, by rw [By_t17.cell]; rfl⟩))
      (refine tkW (i := 0) (v := ?_) (by (simp only [ga, gc]; rfl)) (by kernel_rfl) (by (intro _ _ _ h; exact h)) (by rfl) ?_ (by assumption) ?_; rotate_left; (focus ((intro w hSw; (try dsimp only at hSw); go_simp) <;> with_reducible rfl)); (try simp only [Act.put, pa, pb, pc]))
      (refine tkW (i := 1) (v := ?_) (by (simp only [ga, gb, gc]; rfl)) (by kernel_rfl) (by (intro _ _ _ h; exact h)) (by rfl) ?_ (by assumption) ?_; rotate_left; (focus ((intro w hSw; (try dsimp only at hSw); go_simp) <;> with_reducible rfl)); (try simp only [Act.put, pa, pb, pc]))
      (refine tkW (i := 2) (v := ?_) (by (simp only [ga, gb, gc]; rfl)) (by kernel_rfl) (by (intro _ _ _ h; exact h)) (by rfl) ?_ (by assumption) ?_; rotate_left; (focus ((intro w hSw; (try dsimp only at hSw); go_simp) <;> with_reducible rfl)); (try simp only [Act.put, pa, pb, pc]))
      (refine tkW (i := 3) (v := ?_) (by (simp only [ga, gb, gc]; rfl)) (by kernel_rfl) (by (intro _ _ _ h; exact h)) (by rfl) ?_ (by assumption) ?_; rotate_left; (focus ((intro w hSw; (try dsimp only at hSw); go_simp) <;> with_reducible rfl)); (try simp only [Act.put, pa, pb, pc]))
      (refine tkW (i := 4) (v := ?_) (by (simp only [ga, gb, gc]; rfl)) (by kernel_rfl) (by (intro _ _ _ h; exact h)) (by rfl) ?_ (by assumption) ?_; rotate_left; (focus ((intro w hSw; (try dsimp only at hSw); go_simp) <;> with_reducible rfl)); (try simp only [Act.put, pa, pb, pc]))
      (refine tkW (i := 5) (v := ?_) (by (simp only [ga, gb, gc]; rfl)) (by kernel_rfl) (by (intro _ _ _ h; exact h)) (by rfl) ?_ (by assumption) ?_; rotate_left; (focus ((intro w hSw; (try dsimp only at hSw); go_simp) <;> with_reducible rfl)); (try simp only [Act.put, pa, pb, pc]))
      (refine wpAnyH_ready (rs := [6]) (by kernel_rfl) (by simp) ?_; refine AllReadyH.cons (by (simp only [ga, gb, gc]; rfl)) (fun K hK => ?_) AllReadyH.nil; go_simp; (go_at_call 45; refine (implSameO x_t17 y_t17 (by omega) (by omega)).mono ?_; rintro e w4 ⟨rfl, hb4⟩; rw [sameB_refl]; have a_t19 := a_t17.next hb4; clear a_t17; have ua_t19 := ua_t17.next hb4; clear ua_t17; have x_t19 := x_t17.next hb4; clear x_t17; have y_t19 := y_t17.next hb4; clear y_t17; have Ba_t19 := Ba_t17.next hb4; clear Ba_t17; have Bx_t19 := Bx_t17.next hb4; clear Bx_t17; have By_t19 := By_t17.next hb4; clear By_t17; have hw_t19 := below_next hw_t17 hb4; have hs_t19 := hb4.size); go_wp2_with fail; refine hK.out _ _ ?_ (fun hHeld => ?_); (focus ((try dsimp only); (exact ⟨by rw [Ba_t19.cell]; rfl, by rw [Ba_t19.cell]; rfl, by rw [Bx_t19.cell]; rfl, by rw [Bx_t19.cell]; rfl, by rw [By_t19.cell]; rfl, by rw [By_t19.cell]; rfl⟩))); clear hK K; (try simp only [Act.put, pa, pb, pc]))
      (refine tkW (i := 7) (v := ?_) (by (simp only [ga, gb, gc]; rfl)) (by kernel_rfl) (by (intro _ _ _ h; exact h)) (by rfl) ?_ (by assumption) ?_; rotate_left; (focus ((intro w hSw; (try dsimp only at hSw); go_simp) <;> with_reducible rfl)); (try simp only [Act.put, pa, pb, pc]))
      (refine tkW (i := 8) (v := ?_) (by (simp only [ga, gb, gc]; rfl)) (by kernel_rfl) (by (intro _ _ _ h; exact h)) (by rfl) ?_ (by assumption) ?_; rotate_left; (focus ((intro w hSw; (try dsimp only at hSw); go_simp) <;> with_reducible rfl)); (try simp only [Act.put, pa, pb, pc]))
      (refine tkW (i := 9) (v := ?_) (by (simp only [ga, gb, gc]; rfl)) (by kernel_rfl) (by (intro _ _ _ h; exact h)) (by rfl) ?_ (by assumption) ?_; rotate_left; (focus ((intro w hSw; (try dsimp only at hSw); go_simp) <;> with_reducible rfl)); (try simp only [Act.put, pa, pb, pc]))
      (refine tkW (i := 10) (v := ?_) (by (simp only [ga, gb, gc]; rfl)) (by kernel_rfl) (by (intro _ _ _ h; exact h)) (by rfl) ?_ (by assumption) ?_; rotate_left; (focus ((intro w hSw; (try dsimp only at hSw); go_simp) <;> with_reducible rfl)); (try simp only [Act.put, pa, pb, pc]))
      (refine tkW (i := 12) (v := ?_) (by (simp only [ga, gb, gc]; rfl)) (by kernel_rfl) (by (intro _ _ _ h; exact h)) (by rfl) ?_ (by assumption) ?_; rotate_left; (focus ((intro w hSw; (try dsimp only at hSw); go_simp) <;> with_reducible rfl)); (try simp only [Act.put, pa, pb, pc]))
      (refine wpAnyH_ready (rs := [11]) (by kernel_rfl) (by simp) ?_; refine AllReadyH.cons (by (simp only [ga, gb, gc]; rfl)) (fun K hK => ?_) AllReadyH.nil; go_simp; (go_at_call 23; refine (implVersOkO a_t19 hfa).mono ?_; rintro e w5 ⟨rfl, hb5⟩; rw [hv]; have a_t21 := a_t19.next hb5; clear a_t19; have ua_t21 := ua_t19.next hb5; clear ua_t19; have x_t21 := x_t19.next hb5; clear x_t19; have y_t21 := y_t19.next hb5; clear y_t19; have Ba_t21 := Ba_t19.next hb5; clear Ba_t19; have Bx_t21 := Bx_t19.next hb5; clear Bx_t19; have By_t21 := By_t19.next hb5; clear By_t19; have hw_t21 := below_next hw_t19 hb5; have hs_t21 := hb5.size); go_wp2_with fail; refine hK.out _ _ ?_ (fun hHeld => ?_); (focus ((try dsimp only); (exact ⟨by rw [Ba_t21.cell]; rfl, by rw [Ba_t21.cell]; rfl, by rw [Bx_t21.cell]; rfl, by rw [Bx_t21.cell]; rfl, by rw [By_t21.cell]; rfl, by rw [By_t21.cell]; rfl⟩))); clear hK K; (try simp only [Act.put, pa, pb, pc]))
      (refine wpAnyH_ready (rs := [13]) (by kernel_rfl) (by simp) ?_; refine AllReadyH.cons (by (simp only [ga, gb, gc]; rfl)) (fun K hK => ?_) AllReadyH.nil; go_simp; (go_at_call 21; refine (specVersOkO a_t21 hfa).mono ?_; rintro e w6 ⟨rfl, hb6⟩; rw [hv]; have a_t23 := a_t21.next hb6; clear a_t21; have ua_t23 := ua_t21.next hb6; clear ua_t21; have x_t23 := x_t21.next hb6; clear x_t21; have y_t23 := y_t21.next hb6; clear y_t21; have Ba_t23 := Ba_t21.next hb6; clear Ba_t21; have Bx_t23 := Bx_t21.next hb6; clear Bx_t21; have By_t23 := By_t21.next hb6; clear By_t21; have hw_t23 := below_next hw_t21 hb6; have hs_t23 := hb6.size); go_wp2_with fail; refine hK.out _ _ ?_ (fun hHeld => ?_); (focus ((try dsimp only); (exact ⟨by rw [Ba_t23.cell]; rfl, by rw [Ba_t23.cell]; rfl, by rw [Bx_t23.cell]; rfl, by rw [Bx_t23.cell]; rfl, by rw [By_t23.cell]; rfl, by rw [By_t23.cell]; rfl⟩))); clear hK K; (try simp only [Act.put, pa, pb, pc]))
      (refine tkW (i := 14) (v := ?_) (by (simp only [ga, gb, gc]; rfl)) (by kernel_rfl) (by (intro _ _ _ h; exact h)) (by rfl) ?_ (by assumption) ?_; rotate_left; (focus ((intro w hSw; (try dsimp only at hSw); go_simp) <;> with_reducible rfl)); (try simp only [Act.put, pa, pb, pc]))
      (refine tkW (i := 15) (v := ?_) (by (simp only [ga, gb, gc]; rfl)) (by kernel_rfl) (by (intro _ _ _ h; exact h)) (by rfl) ?_ (by assumption) ?_; rotate_left; (focus ((intro w hSw; (try dsimp only at hSw); go_simp) <;> with_reducible rfl)); (try simp only [Act.put, pa, pb, pc]))
      refine wpAnyH_done (by kernel_rfl) ?_ _
      have qBa0 : w6.cell? ⟨w1.heap.size, 0, none⟩ = some (.int .i64 za) := by rw [Ba_t23.cell]; rfl
      have qBa1 : w6.cell? ⟨w1.heap.size, 1, none⟩ = some (.slice ada la.length ca) := by rw [Ba_t23.cell]; rfl
      have qBx0 : w6.cell? ⟨w2.heap.size, 0, none⟩ = some (.int .i64 za) := by rw [Bx_t23.cell]; rfl
      have qBx1 : w6.cell? ⟨w2.heap.size, 1, none⟩ = some (.slice adx la.length cx) := by rw [Bx_t23.cell]; rfl
      have qBy0 : w6.cell? ⟨w3.heap.size, 0, none⟩ = some (.int .i64 za) := by rw [By_t23.cell]; rfl
      have qBy1 : w6.cell? ⟨w3.heap.size, 1, none⟩ = some (.slice ady la.length cy) := by rw [By_t23.cell]; rfl
      go_wp2_with fail
      clear qBa0 qBa1 qBx0 qBx1 qBy0 qBy1
      refine (specVersOkO a_t23 hfa).mono ?_
      rintro e w7 ⟨rfl, hb7⟩
      rw [hv]
      have a_t25 := a_t23.next hb7
      clear a_t23
      have ua_t25 := ua_t23.next hb7
      clear ua_t23
      have x_t25 := x_t23.next hb7
      clear x_t23
      have y_t25 := y_t23.next hb7
      clear y_t23
      have Ba_t25 := Ba_t23.next hb7
      clear Ba_t23
      have Bx_t25 := Bx_t23.next hb7
      clear Bx_t23
      have By_t25 := By_t23.next hb7
      clear By_t23
      have hw_t25 := below_next hw_t23 hb7
      have hs_t25 := hb7.size
      have qBa0 : w7.cell? ⟨w1.heap.size, 0, none⟩ = some (.int .i64 za) := by rw [Ba_t25.cell]; rfl
      have qBa1 : w7.cell? ⟨w1.heap.size, 1, none⟩ = some (.slice ada la.length ca) := by rw [Ba_t25.cell]; rfl
      have qBx0 : w7.cell? ⟨w2.heap.size, 0, none⟩ = some (.int .i64 za) := by rw [Bx_t25.cell]; rfl
      have qBx1 : w7.cell? ⟨w2.heap.size, 1, none⟩ = some (.slice adx la.length cx) := by rw [Bx_t25.cell]; rfl
      have qBy0 : w7.cell? ⟨w3.heap.size, 0, none⟩ = some (.int .i64 za) := by rw [By_t25.cell]; rfl
      have qBy1 : w7.cell? ⟨w3.heap.size, 1, none⟩ = some (.slice ady la.length cy) := by rw [By_t25.cell]; rfl
      go_wp2_with fail
      clear qBa0 qBa1 qBx0 qBx1 qBy0 qBy1
      refine (implSameO x_t25 a_t25 (by omega) (by omega)).mono ?_
      rintro e w8 ⟨rfl, hb8⟩
      rw [sameB_refl]
      have a_t27 := a_t25.next hb8
      clear a_t25
      have ua_t27 := ua_t25.next hb8
      clear ua_t25
      have x_t27 := x_t25.next hb8
      clear x_t25
      have y_t27 := y_t25.next hb8
      clear y_t25
      have Ba_t27 := Ba_t25.next hb8
      clear Ba_t25
      have Bx_t27 := Bx_t25.next hb8
      clear Bx_t25
      have By_t27 := By_t25.next hb8
      clear By_t25
      have hw_t27 := below_next hw_t25 hb8
      have hs_t27 := hb8.size
      have qBa0 : w8.cell? ⟨w1.heap.size, 0, none⟩ = some (.int .i64 za) := by rw [Ba_t27.cell]; rfl
      have qBa1 : w8.cell? ⟨w1.heap.size, 1, none⟩ = some (.slice ada la.length ca) := by rw [Ba_t27.cell]; rfl
      have qBx0 : w8.cell? ⟨w2.heap.size, 0, none⟩ = some (.int .i64 za) := by rw [Bx_t27.cell]; rfl
      have qBx1 : w8.cell? ⟨w2.heap.size, 1, none⟩ = some (.slice adx la.length cx) := by rw [Bx_t27.cell]; rfl
      have qBy0 : w8.cell? ⟨w3.heap.size, 0, none⟩ = some (.int .i64 za) := by rw [By_t27.cell]; rfl
      have qBy1 : w8.cell? ⟨w3.heap.size, 1, none⟩ = some (.slice ady la.length cy) := by rw [By_t27.cell]; rfl
      go_wp2
      go_ret
      exact ⟨rfl, hw_t27⟩
    · have HSB : Hid (sameB RZ 0 RL [] = true) := Lib.hid (by rw [← HRR.out.1, ← HRR.out.2.1, e1, e2]; exact sameB_refl 0 [])
      clear e1 e2 HRR
      have qBa0 : (w3.alloc (.cells #[.int .i64 RZ, .slice ady RL.length cy] 29)).cell? ⟨w1.heap.size, 0, none⟩ = some (.int .i64 za) := by rw [Ba_t14.cell]; rfl
      have qBa1 : (w3.alloc (.cells #[.int .i64 RZ, .slice ady RL.length cy] 29)).cell? ⟨w1.heap.size, 1, none⟩ = some (.slice ada la.length ca) := by rw [Ba_t14.cell]; rfl
      have qBx0 : (w3.alloc (.cells #[.int .i64 RZ, .slice ady RL.length cy] 29)).cell? ⟨w2.heap.size, 0, none⟩ = some (.int .i64 RZ) := by rw [Bx_t14.cell]; rfl
      have qBx1 : (w3.alloc (.cells #[.int .i64 RZ, .slice ady RL.length cy] 29)).cell? ⟨w2.heap.size, 1, none⟩ = some (.slice adx RL.length cx) := by rw [Bx_t14.cell]; rfl
      have qBy0 : (w3.alloc (.cells #[.int .i64 RZ, .slice ady RL.length cy] 29)).cell? ⟨w3.heap.size, 0, none⟩ = some (.int .i64 RZ) := by rw [By_t13.cell]; rfl
      have qBy1 : (w3.alloc (.cells #[.int .i64 RZ, .slice ady RL.length cy] 29)).cell? ⟨w3.heap.size, 1, none⟩ = some (.slice ady RL.length cy) := by rw [By_t13.cell]; rfl
      go_wp2
      clear qBa0 qBa1 qBx0 qBx1 qBy0 qBy1
      have hb_t16 : Below (w3.alloc (.cells #[.int .i64 RZ, .slice ady RL.length cy] 29)).heap.size (w3.alloc (.cells #[.int .i64 RZ, .slice ady RL.length cy] 29)) (w3.alloc (.cells #[.int .i64 RZ, .slice ady RL.length cy] 29)).drew := (Below.refl _ _).drew
      have a_t17 := a_t14.next hb_t16
      clear a_t14
      have ua_t17 := ua_t14.next hb_t16
      clear ua_t14
      have x_t17 := x_t14.next hb_t16
      clear x_t14
      have y_t17 := y_t14.next hb_t16
      clear y_t14
      have Ba_t17 := Ba_t14.next hb_t16
      clear Ba_t14
      have Bx_t17 := Bx_t14.next hb_t16
      clear Bx_t14
      have By_t17 := By_t13.next hb_t16
      clear By_t13
      have hw_t17 := below_next hw_t14 hb_t16
      have hs_t17 := hb_t16.size
      refine wp_region_held_drew (S := (fun W => W.cell? ⟨w1.heap.size, 0, none⟩ = some (.int .i64 za) ∧ W.cell? ⟨w1.heap.size, 1, none⟩ = some (.slice ada la.length ca) ∧ W.cell? ⟨w2.heap.size, 0, none⟩ = some (.int .i64 RZ) ∧ W.cell? ⟨w2.heap.size, 1, none⟩ = some (.slice adx RL.length cx) ∧ W.cell? ⟨w3.heap.size, 0, none⟩ = some (.int .i64 RZ) ∧ W.cell? ⟨w3.heap.size, 1, none⟩ = some (.slice ady RL.length cy))) (by kernel_rfl) ?_ (fun hHeld => ?_)
      focus ((try dsimp only); (exact ⟨by rw [Ba_t17.cell]; rfl, by rw [Ba_t17.cell]; rfl, by rw [Bx_t17.cell]; rfl, by rw [Bx_t17.cell]; rfl, by rw [By_t17.cell]; rfl, by rw [By_t17.cell]; rfl⟩))
      (refine tkW (i := 0) (v := ?_) (by (simp only [ga, gc]; rfl)) (by kernel_rfl) (by (intro _ _ _ h; exact h)) (by rfl) ?_ (by assumption) ?_; rotate_left; (focus ((intro w hSw; (try dsimp only at hSw); go_simp) <;> with_reducible rfl)); (try simp only [Act.put, pa, pb, pc]))
      (refine tkW (i := 1) (v := ?_) (by (simp only [ga, gb, gc]; rfl)) (by kernel_rfl) (by (intro _ _ _ h; exact h)) (by rfl) ?_ (by assumption) ?_; rotate_left; (focus ((intro w hSw; (try dsimp only at hSw); go_simp) <;> with_reducible rfl)); (try simp only [Act.put, pa, pb, pc]))
      (refine tkW (i := 2) (v := ?_) (by (simp only [ga, gb, gc]; rfl)) (by kernel_rfl) (by (intro _ _ _ h; exact h)) (by rfl) ?_ (by assumption) ?_; rotate_left; (focus ((intro w hSw; (try dsimp only at hSw); go_simp) <;> with_reducible rfl)); (try simp only [Act.put, pa, pb, pc]))
      (refine tkW (i := 3) (v := ?_) (by (simp only [ga, gb, gc]; rfl)) (by kernel_rfl) (by (intro _ _ _ h; exact h)) (by rfl) ?_ (by assumption) ?_; rotate_left; (focus ((intro w hSw; (try dsimp only at hSw); go_simp) <;> with_reducible rfl)); (try simp only [Act.put, pa, pb, pc]))
      (refine tkW (i := 4) (v := ?_) (by (simp only [ga, gb, gc]; rfl)) (by kernel_rfl) (by (intro _ _ _ h; exact h)) (by rfl) ?_ (by assumption) ?_; rotate_left; (focus ((intro w hSw; (try dsimp only at hSw); go_simp) <;> with_reducible rfl)); (try simp only [Act.put, pa, pb, pc]))
      (refine tkW (i := 5) (v := ?_) (by (simp only [ga, gb, gc]; rfl)) (by kernel_rfl) (by (intro _ _ _ h; exact h)) (by rfl) ?_ (by assumption) ?_; rotate_left; (focus ((intro w hSw; (try dsimp only at hSw); go_simp) <;> with_reducible rfl)); (try simp only [Act.put, pa, pb, pc]))
      (refine wpAnyH_ready (rs := [6]) (by kernel_rfl) (by simp) ?_; refine AllReadyH.cons (by (simp only [ga, gb, gc]; rfl)) (fun K hK => ?_) AllReadyH.nil; go_simp; (go_at_call 45; refine (implSameO x_t17 y_t17 (by omega) (by omega)).mono ?_; rintro e w4 ⟨rfl, hb4⟩; rw [sameB_refl]; have a_t19 := a_t17.next hb4; clear a_t17; have ua_t19 := ua_t17.next hb4; clear ua_t17; have x_t19 := x_t17.next hb4; clear x_t17; have y_t19 := y_t17.next hb4; clear y_t17; have Ba_t19 := Ba_t17.next hb4; clear Ba_t17; have Bx_t19 := Bx_t17.next hb4; clear Bx_t17; have By_t19 := By_t17.next hb4; clear By_t17; have hw_t19 := below_next hw_t17 hb4; have hs_t19 := hb4.size); go_wp2_with fail; refine hK.out _ _ ?_ (fun hHeld => ?_); (focus ((try dsimp only); (exact ⟨by rw [Ba_t19.cell]; rfl, by rw [Ba_t19.cell]; rfl, by rw [Bx_t19.cell]; rfl, by rw [Bx_t19.cell]; rfl, by rw [By_t19.cell]; rfl, by rw [By_t19.cell]; rfl⟩))); clear hK K; (try simp only [Act.put, pa, pb, pc]))
      (refine tkW (i := 7) (v := ?_) (by (simp only [ga, gb, gc]; rfl)) (by kernel_rfl) (by (intro _ _ _ h; exact h)) (by rfl) ?_ (by assumption) ?_; rotate_left; (focus ((intro w hSw; (try dsimp only at hSw); go_simp) <;> with_reducible rfl)); (try simp only [Act.put, pa, pb, pc]))
      (refine tkW (i := 8) (v := ?_) (by (simp only [ga, gb, gc]; rfl)) (by kernel_rfl) (by (intro _ _ _ h; exact h)) (by rfl) ?_ (by assumption) ?_; rotate_left; (focus ((intro w hSw; (try dsimp only at hSw); go_simp) <;> with_reducible rfl)); (try simp only [Act.put, pa, pb, pc]))
      (refine tkW (i := 9) (v := ?_) (by (simp only [ga, gb, gc]; rfl)) (by kernel_rfl) (by (intro _ _ _ h; exact h)) (by rfl) ?_ (by assumption) ?_; rotate_left; (focus ((intro w hSw; (try dsimp only at hSw); go_simp) <;> with_reducible rfl)); (try simp only [Act.put, pa, pb, pc]))
      (refine tkW (i := 10) (v := ?_) (by (simp only [ga, gb, gc]; rfl)) (by kernel_rfl) (by (intro _ _ _ h; exact h)) (by rfl) ?_ (by assumption) ?_; rotate_left; (focus ((intro w hSw; (try dsimp only at hSw); go_simp) <;> with_reducible rfl)); (try simp only [Act.put, pa, pb, pc]))
      (refine tkW (i := 12) (v := ?_) (by (simp only [ga, gb, gc]; rfl)) (by kernel_rfl) (by (intro _ _ _ h; exact h)) (by rfl) ?_ (by assumption) ?_; rotate_left; (focus ((intro w hSw; (try dsimp only at hSw); go_simp) <;> with_reducible rfl)); (try simp only [Act.put, pa, pb, pc]))
      (refine wpAnyH_ready (rs := [11]) (by kernel_rfl) (by simp) ?_; refine AllReadyH.cons (by (simp only [ga, gb, gc]; rfl)) (fun K hK => ?_) AllReadyH.nil; go_simp; (go_at_call 23; refine (implVersOkO a_t19 hfa).mono ?_; rintro e w5 ⟨rfl, hb5⟩; rw [hv]; have a_t21 := a_t19.next hb5; clear a_t19; have ua_t21 := ua_t19.next hb5; clear ua_t19; have x_t21 := x_t19.next hb5; clear x_t19; have y_t21 := y_t19.next hb5; clear y_t19; have Ba_t21 := Ba_t19.next hb5; clear Ba_t19; have Bx_t21 := Bx_t19.next hb5; clear Bx_t19; have By_t21 := By_t19.next hb5; clear By_t19; have hw_t21 := below_next hw_t19 hb5; have hs_t21 := hb5.size); go_wp2_with fail; refine hK.out _ _ ?_ (fun hHeld => ?_); (focus ((try dsimp only); (exact ⟨by rw [Ba_t21.cell]; rfl, by rw [Ba_t21.cell]; rfl, by rw [Bx_t21.cell]; rfl, by rw [Bx_t21.cell]; rfl, by rw [By_t21.cell]; rfl, by rw [By_t21.cell]; rfl⟩))); clear hK K; (try simp only [Act.put, pa, pb, pc]))
      (refine wpAnyH_ready (rs := [13]) (by kernel_rfl) (by simp) ?_; refine AllReadyH.cons (by (simp only [ga, gb, gc]; rfl)) (fun K hK => ?_) AllReadyH.nil; go_simp; (go_at_call 21; refine (specVersOkO a_t21 hfa).mono ?_; rintro e w6 ⟨rfl, hb6⟩; rw [hv]; have a_t23 := a_t21.next hb6; clear a_t21; have ua_t23 := ua_t21.next hb6; clear ua_t21; have x_t23 := x_t21.next hb6; clear x_t21; have y_t23 := y_t21.next hb6; clear y_t21; have Ba_t23 := Ba_t21.next hb6; clear Ba_t21; have Bx_t23 := Bx_t21.next hb6; clear Bx_t21; have By_t23 := By_t21.next hb6; clear By_t21; have hw_t23 := below_next hw_t21 hb6; have hs_t23 := hb6.size); go_wp2_with fail; refine hK.out _ _ ?_ (fun hHeld => ?_); (focus ((try dsimp only); (exact ⟨by rw [Ba_t23.cell]; rfl, by rw [Ba_t23.cell]; rfl, by rw [Bx_t23.cell]; rfl, by rw [Bx_t23.cell]; rfl, by rw [By_t23.cell]; rfl, by rw [By_t23.cell]; rfl⟩))); clear hK K; (try simp only [Act.put, pa, pb, pc]))
      (refine tkW (i := 14) (v := ?_) (by (simp only [ga, gb, gc]; rfl)) (by kernel_rfl) (by (intro _ _ _ h; exact h)) (by rfl) ?_ (by assumption) ?_; rotate_left; (focus ((intro w hSw; (try dsimp only at hSw); go_simp) <;> with_reducible rfl)); (try simp only [Act.put, pa, pb, pc]))
      (refine tkW (i := 15) (v := ?_) (by (simp only [ga, gb, gc]; rfl)) (by kernel_rfl) (by (intro _ _ _ h; exact h)) (by rfl) ?_ (by assumption) ?_; rotate_left; (focus ((intro w hSw; (try dsimp only at hSw); go_simp) <;> with_reducible rfl)); (try simp only [Act.put, pa, pb, pc]))
      refine wpAnyH_done (by kernel_rfl) ?_ _
      have qBa0 : w6.cell? ⟨w1.heap.size, 0, none⟩ = some (.int .i64 za) := by rw [Ba_t23.cell]; rfl
      have qBa1 : w6.cell? ⟨w1.heap.size, 1, none⟩ = some (.slice ada la.length ca) := by rw [Ba_t23.cell]; rfl
      have qBx0 : w6.cell? ⟨w2.heap.size, 0, none⟩ = some (.int .i64 RZ) := by rw [Bx_t23.cell]; rfl
      have qBx1 : w6.cell? ⟨w2.heap.size, 1, none⟩ = some (.slice adx RL.length cx) := by rw [Bx_t23.cell]; rfl
      have qBy0 : w6.cell? ⟨w3.heap.size, 0, none⟩ = some (.int .i64 RZ) := by rw [By_t23.cell]; rfl
      have qBy1 : w6.cell? ⟨w3.heap.size, 1, none⟩ = some (.slice ady RL.length cy) := by rw [By_t23.cell]; rfl
      go_wp2_with fail
      clear qBa0 qBa1 qBx0 qBx1 qBy0 qBy1
      refine (specVersOkO a_t23 hfa).mono ?_
      rintro e w7 ⟨rfl, hb7⟩
      rw [hv]
      have a_t25 := a_t23.next hb7
      clear a_t23
      have ua_t25 := ua_t23.next hb7
      clear ua_t23
      have x_t25 := x_t23.next hb7
      clear x_t23
      have y_t25 := y_t23.next hb7
      clear y_t23
      have Ba_t25 := Ba_t23.next hb7
      clear Ba_t23
      have Bx_t25 := Bx_t23.next hb7
      clear Bx_t23
      have By_t25 := By_t23.next hb7
      clear By_t23
      have hw_t25 := below_next hw_t23 hb7
      have hs_t25 := hb7.size
      have qBa0 : w7.cell? ⟨w1.heap.size, 0, none⟩ = some (.int .i64 za) := by rw [Ba_t25.cell]; rfl
      have qBa1 : w7.cell? ⟨w1.heap.size, 1, none⟩ = some (.slice ada la.length ca) := by rw [Ba_t25.cell]; rfl
      have qBx0 : w7.cell? ⟨w2.heap.size, 0, none⟩ = some (.int .i64 RZ) := by rw [Bx_t25.cell]; rfl
      have qBx1 : w7.cell? ⟨w2.heap.size, 1, none⟩ = some (.slice adx RL.length cx) := by rw [Bx_t25.cell]; rfl
      have qBy0 : w7.cell? ⟨w3.heap.size, 0, none⟩ = some (.int .i64 RZ) := by rw [By_t25.cell]; rfl
      have qBy1 : w7.cell? ⟨w3.heap.size, 1, none⟩ = some (.slice ady RL.length cy) := by rw [By_t25.cell]; rfl
      go_wp2_with fail
      clear qBa0 qBa1 qBx0 qBx1 qBy0 qBy1
      refine (specVersOkO a_t25 hfa).mono ?_
      rintro e w8 ⟨rfl, hb8⟩
      rw [hv]
      have a_t27 := a_t25.next hb8
      clear a_t25
      have ua_t27 := ua_t25.next hb8
      clear ua_t25
      have x_t27 := x_t25.next hb8
      clear x_t25
      have y_t27 := y_t25.next hb8
      clear y_t25
      have Ba_t27 := Ba_t25.next hb8
      clear Ba_t25
      have Bx_t27 := Bx_t25.next hb8
      clear Bx_t25
      have By_t27 := By_t25.next hb8
      clear By_t25
      have hw_t27 := below_next hw_t25 hb8
      have hs_t27 := hb8.size
      have qBa0 : w8.cell? ⟨w1.heap.size, 0, none⟩ = some (.int .i64 za) := by rw [Ba_t27.cell]; rfl
      have qBa1 : w8.cell? ⟨w1.heap.size, 1, none⟩ = some (.slice ada la.length ca) := by rw [Ba_t27.cell]; rfl
      have qBx0 : w8.cell? ⟨w2.heap.size, 0, none⟩ = some (.int .i64 RZ) := by rw [Bx_t27.cell]; rfl
      have qBx1 : w8.cell? ⟨w2.heap.size, 1, none⟩ = some (.slice adx RL.length cx) := by rw [Bx_t27.cell]; rfl
      have qBy0 : w8.cell? ⟨w3.heap.size, 0, none⟩ = some (.int .i64 RZ) := by rw [By_t27.cell]; rfl
      have qBy1 : w8.cell? ⟨w3.heap.size, 1, none⟩ = some (.slice ady RL.length cy) := by rw [By_t27.cell]; rfl
      go_wp2_with fail
      clear qBa0 qBa1 qBx0 qBx1 qBy0 qBy1
      refine (implSameO x_t27 (OwnG.nil (α := V) _ 0) (by omega) (by simp)).mono ?_
      rintro e w9 ⟨rfl, hb9⟩
      rw [HSB.out]
      have a_t29 := a_t27.next hb9
      clear a_t27
      have ua_t29 := ua_t27.next hb9
      clear ua_t27
      have x_t29 := x_t27.next hb9
      clear x_t27
      have y_t29 := y_t27.next hb9
      clear y_t27
      have Ba_t29 := Ba_t27.next hb9
      clear Ba_t27
      have Bx_t29 := Bx_t27.next hb9
      clear Bx_t27
      have By_t29 := By_t27.next hb9
      clear By_t27
      have hw_t29 := below_next hw_t27 hb9
      have hs_t29 := hb9.size
      have qBa0 : w9.cell? ⟨w1.heap.size, 0, none⟩ = some (.int .i64 za) := by rw [Ba_t29.cell]; rfl
      have qBa1 : w9.cell? ⟨w1.heap.size, 1, none⟩ = some (.slice ada la.length ca) := by rw [Ba_t29.cell]; rfl
      have qBx0 : w9.cell? ⟨w2.heap.size, 0, none⟩ = some (.int .i64 RZ) := by rw [Bx_t29.cell]; rfl
      have qBx1 : w9.cell? ⟨w2.heap.size, 1, none⟩ = some (.slice adx RL.length cx) := by rw [Bx_t29.cell]; rfl
      have qBy0 : w9.cell? ⟨w3.heap.size, 0, none⟩ = some (.int .i64 RZ) := by rw [By_t29.cell]; rfl
      have qBy1 : w9.cell? ⟨w3.heap.size, 1, none⟩ = some (.slice ady RL.length cy) := by rw [By_t29.cell]; rfl
      go_wp2
      go_ret
      exact ⟨rfl, hw_t29⟩
  · subst hc
    obtain ⟨p1, p2, p3, p4, p5⟩ := do_parts HRR.out.2.2
    have hzR : RZ = za + 1 := HRR.out.1.symm.trans p4
    have HRL : Hid (RL = doAll la xa (za + 1)) := Lib.hid (HRR.out.2.1.symm.trans p5)
    have HDO : Hid (doB za la xa = true) := Lib.hid HRR.out.2.2
    have hfR : FitVs RL := by rw [← HRR.out.2.1]; exact FitVs.doL p1 hfa hfxa
    have hRl : RL.length ≤ 60 := by rw [HRL.out]; exact p3.len
    have HVR : Hid (versB (za + 1) RL = true) := Lib.hid (by rw [HRL.out]; exact versB_yes p3)
    have HVA : Hid (versB za la = true) := Lib.hid (versB_yes p1)
    have hnow := p3.now
    have hnow0 := p1.now0
    clear p1 p2 p3 p4 p5 HRR
    subst hzR
    have HPAST : Hid (∀ t, 0 ≤ t → t ≤ za → versAt (za + 1) RL t = versAt za la t) := Lib.hid fun t h0 h1 => by rw [HRL.out]; exact past_do HDO.out h0 h1
    have HHAND : Hid (putN (cutN (versAt za la za) xa) xa = versAt (za + 1) RL (za + 1) ∧ ∀ i, RowsP (cutN (versAt za la za) (xa.take i)) ∧ RowsP (putN (cutN (versAt za la za) xa) (xa.take i))) := Lib.hid (by rw [HRL.out]; exact hand_do HDO.out)
    have qBa0 : (w3.alloc (.cells #[.int .i64 (za + 1), .slice ady RL.length cy] 29)).cell? ⟨w1.heap.size, 0, none⟩ = some (.int .i64 za) := by rw [Ba_t14.cell]; rfl
    have qBa1 : (w3.alloc (.cells #[.int .i64 (za + 1), .slice ady RL.length cy] 29)).cell? ⟨w1.heap.size, 1, none⟩ = some (.slice ada la.length ca) := by rw [Ba_t14.cell]; rfl
    have qBx0 : (w3.alloc (.cells #[.int .i64 (za + 1), .slice ady RL.length cy] 29)).cell? ⟨w2.heap.size, 0, none⟩ = some (.int .i64 (za + 1)) := by rw [Bx_t14.cell]; rfl
    have qBx1 : (w3.alloc (.cells #[.int .i64 (za + 1), .slice ady RL.length cy] 29)).cell? ⟨w2.heap.size, 1, none⟩ = some (.slice adx RL.length cx) := by rw [Bx_t14.cell]; rfl
    have qBy0 : (w3.alloc (.cells #[.int .i64 (za + 1), .slice ady RL.length cy] 29)).cell? ⟨w3.heap.size, 0, none⟩ = some (.int .i64 (za + 1)) := by rw [By_t13.cell]; rfl
    have qBy1 : (w3.alloc (.cells #[.int .i64 (za + 1), .slice ady RL.length cy] 29)).cell? ⟨w3.heap.size, 1, none⟩ = some (.slice ady RL.length cy) := by rw [By_t13.cell]; rfl
    go_wp2
    clear qBa0 qBa1 qBx0 qBx1 qBy0 qBy1
    have hb_t16 : Below (w3.alloc (.cells #[.int .i64 (za + 1), .slice ady RL.length cy] 29)).heap.size (w3.alloc (.cells #[.int .i64 (za + 1), .slice ady RL.length cy] 29)) (w3.alloc (.cells #[.int .i64 (za + 1), .slice ady RL.length cy] 29)).drew := (Below.refl _ _).drew
    have a_t17 := a_t14.next hb_t16
    clear a_t14
    have ua_t17 := ua_t14.next hb_t16
    clear ua_t14
    have x_t17 := x_t14.next hb_t16
    clear x_t14
    have y_t17 := y_t14.next hb_t16
    clear y_t14
    have Ba_t17 := Ba_t14.next hb_t16
    clear Ba_t14
    have Bx_t17 := Bx_t14.next hb_t16
    clear Bx_t14
    have By_t17 := By_t13.next hb_t16
    clear By_t13
    have hw_t17 := below_next hw_t14 hb_t16
    have hs_t17 := hb_t16.size
    refine wp_region_held_drew (S := (fun W => W.cell? ⟨w1.heap.size, 0, none⟩ = some (.int .i64 za) ∧ W.cell? ⟨w1.heap.size, 1, none⟩ = some (.slice ada la.length ca) ∧ W.cell? ⟨w2.heap.size, 0, none⟩ = some (.int .i64 (za + 1)) ∧ W.cell? ⟨w2.heap.size, 1, none⟩ = some (.slice adx RL.length cx) ∧ W.cell? ⟨w3.heap.size, 0, none⟩ = some (.int .i64 (za + 1)) ∧ W.cell? ⟨w3.heap.size, 1, none⟩ = some (.slice ady RL.length cy))) (by kernel_rfl) ?_ (fun hHeld => ?_)
    focus ((try dsimp only); (exact ⟨by rw [Ba_t17.cell]; rfl, by rw [Ba_t17.cell]; rfl, by rw [Bx_t17.cell]; rfl, by rw [Bx_t17.cell]; rfl, by rw [By_t17.cell]; rfl, by rw [By_t17.cell]; rfl⟩))
    (refine tkW (i := 0) (v := ?_) (by (simp only [ga, gc]; rfl)) (by kernel_rfl) (by (intro _ _ _ h; exact h)) (by rfl) ?_ (by assumption) ?_; rotate_left; (focus ((intro w hSw; (try dsimp only at hSw); go_simp) <;> with_reducible rfl)); (try simp only [Act.put, pa, pb, pc]))
    (refine tkW (i := 1) (v := ?_) (by (simp only [ga, gb, gc]; rfl)) (by kernel_rfl) (by (intro _ _ _ h; exact h)) (by rfl) ?_ (by assumption) ?_; rotate_left; (focus ((intro w hSw; (try dsimp only at hSw); go_simp) <;> with_reducible rfl)); (try simp only [Act.put, pa, pb, pc]))
    (refine tkW (i := 2) (v := ?_) (by (simp only [ga, gb, gc]; rfl)) (by kernel_rfl) (by (intro _ _ _ h; exact h)) (by rfl) ?_ (by assumption) ?_; rotate_left; (focus ((intro w hSw; (try dsimp only at hSw); go_simp) <;> with_reducible rfl)); (try simp only [Act.put, pa, pb, pc]))
    (refine tkW (i := 3) (v := ?_) (by (simp only [ga, gb, gc]; rfl)) (by kernel_rfl) (by (intro _ _ _ h; exact h)) (by rfl) ?_ (by assumption) ?_; rotate_left; (focus ((intro w hSw; (try dsimp only at hSw); go_simp) <;> with_reducible rfl)); (try simp only [Act.put, pa, pb, pc]))
    (refine tkW (i := 4) (v := ?_) (by (simp only [ga, gb, gc]; rfl)) (by kernel_rfl) (by (intro _ _ _ h; exact h)) (by rfl) ?_ (by assumption) ?_; rotate_left; (focus ((intro w hSw; (try dsimp only at hSw); go_simp) <;> with_reducible rfl)); (try simp only [Act.put, pa, pb, pc]))
    (refine tkW (i := 5) (v := ?_) (by (simp only [ga, gb, gc]; rfl)) (by kernel_rfl) (by (intro _ _ _ h; exact h)) (by rfl) ?_ (by assumption) ?_; rotate_left; (focus ((intro w hSw; (try dsimp only at hSw); go_simp) <;> with_reducible rfl)); (try simp only [Act.put, pa, pb, pc]))
    (refine wpAnyH_ready (rs := [6]) (by kernel_rfl) (by simp) ?_; refine AllReadyH.cons (by (simp only [ga, gb, gc]; rfl)) (fun K hK => ?_) AllReadyH.nil; go_simp; (go_at_call 45; refine (implSameO x_t17 y_t17 (by omega) (by omega)).mono ?_; rintro e w4 ⟨rfl, hb4⟩; rw [sameB_refl]; have a_t19 := a_t17.next hb4; clear a_t17; have ua_t19 := ua_t17.next hb4; clear ua_t17; have x_t19 := x_t17.next hb4; clear x_t17; have y_t19 := y_t17.next hb4; clear y_t17; have Ba_t19 := Ba_t17.next hb4; clear Ba_t17; have Bx_t19 := Bx_t17.next hb4; clear Bx_t17; have By_t19 := By_t17.next hb4; clear By_t17; have hw_t19 := below_next hw_t17 hb4; have hs_t19 := hb4.size); go_wp2_with fail; refine hK.out _ _ ?_ (fun hHeld => ?_); (focus ((try dsimp only); (exact ⟨by rw [Ba_t19.cell]; rfl, by rw [Ba_t19.cell]; rfl, by rw [Bx_t19.cell]; rfl, by rw [Bx_t19.cell]; rfl, by rw [By_t19.cell]; rfl, by rw [By_t19.cell]; rfl⟩))); clear hK K; (try simp only [Act.put, pa, pb, pc]))
    (refine tkW (i := 7) (v := ?_) (by (simp only [ga, gb, gc]; rfl)) (by kernel_rfl) (by (intro _ _ _ h; exact h)) (by rfl) ?_ (by assumption) ?_; rotate_left; (focus ((intro w hSw; (try dsimp only at hSw); go_simp) <;> with_reducible rfl)); (try simp only [Act.put, pa, pb, pc]))
    (refine tkW (i := 8) (v := ?_) (by (simp only [ga, gb, gc]; rfl)) (by kernel_rfl) (by (intro _ _ _ h; exact h)) (by rfl) ?_ (by assumption) ?_; rotate_left; (focus ((intro w hSw; (try dsimp only at hSw); go_simp) <;> with_reducible rfl)); (try simp only [Act.put, pa, pb, pc]))
    (refine tkW (i := 9) (v := ?_) (by (simp only [ga, gb, gc]; rfl)) (by kernel_rfl) (by (intro _ _ _ h; exact h)) (by rfl) ?_ (by assumption) ?_; rotate_left; (focus ((intro w hSw; (try dsimp only at hSw); go_simp) <;> with_reducible rfl)); (try simp only [Act.put, pa, pb, pc]))
    (refine tkW (i := 10) (v := ?_) (by (simp only [ga, gb, gc]; rfl)) (by kernel_rfl) (by (intro _ _ _ h; exact h)) (by rfl) ?_ (by assumption) ?_; rotate_left; (focus ((intro w hSw; (try dsimp only at hSw); go_simp) <;> with_reducible rfl)); (try simp only [Act.put, pa, pb, pc]))
    (refine tkW (i := 12) (v := ?_) (by (simp only [ga, gb, gc]; rfl)) (by kernel_rfl) (by (intro _ _ _ h; exact h)) (by rfl) ?_ (by assumption) ?_; rotate_left; (focus ((intro w hSw; (try dsimp only at hSw); go_simp) <;> with_reducible rfl)); (try simp only [Act.put, pa, pb, pc]))
    (refine wpAnyH_ready (rs := [11]) (by kernel_rfl) (by simp) ?_; refine AllReadyH.cons (by (simp only [ga, gb, gc]; rfl)) (fun K hK => ?_) AllReadyH.nil; go_simp; (go_at_call 23; refine (implVersOkO a_t19 hfa).mono ?_; rintro e w5 ⟨rfl, hb5⟩; rw [HVA.out]; have a_t21 := a_t19.next hb5; clear a_t19; have ua_t21 := ua_t19.next hb5; clear ua_t19; have x_t21 := x_t19.next hb5; clear x_t19; have y_t21 := y_t19.next hb5; clear y_t19; have Ba_t21 := Ba_t19.next hb5; clear Ba_t19; have Bx_t21 := Bx_t19.next hb5; clear Bx_t19; have By_t21 := By_t19.next hb5; clear By_t19; have hw_t21 := below_next hw_t19 hb5; have hs_t21 := hb5.size); go_wp2_with fail; refine hK.out _ _ ?_ (fun hHeld => ?_); (focus ((try dsimp only); (exact ⟨by rw [Ba_t21.cell]; rfl, by rw [Ba_t21.cell]; rfl, by rw [Bx_t21.cell]; rfl, by rw [Bx_t21.cell]; rfl, by rw [By_t21.cell]; rfl, by rw [By_t21.cell]; rfl⟩))); clear hK K; (try simp only [Act.put, pa, pb, pc]))
    (refine wpAnyH_ready (rs := [13]) (by kernel_rfl) (by simp) ?_; refine AllReadyH.cons (by (simp only [ga, gb, gc]; rfl)) (fun K hK => ?_) AllReadyH.nil; go_simp; (go_at_call 21; refine (specVersOkO a_t21 hfa).mono ?_; rintro e w6 ⟨rfl, hb6⟩; rw [HVA.out]; have a_t23 := a_t21.next hb6; clear a_t21; have ua_t23 := ua_t21.next hb6; clear ua_t21; have x_t23 := x_t21.next hb6; clear x_t21; have y_t23 := y_t21.next hb6; clear y_t21; have Ba_t23 := Ba_t21.next hb6; clear Ba_t21; have Bx_t23 := Bx_t21.next hb6; clear Bx_t21; have By_t23 := By_t21.next hb6; clear By_t21; have hw_t23 := below_next hw_t21 hb6; have hs_t23 := hb6.size); go_wp2_with fail; refine hK.out _ _ ?_ (fun hHeld => ?_); (focus ((try dsimp only); (exact ⟨by rw [Ba_t23.cell]; rfl, by rw [Ba_t23.cell]; rfl, by rw [Bx_t23.cell]; rfl, by rw [Bx_t23.cell]; rfl, by rw [By_t23.cell]; rfl, by rw [By_t23.cell]; rfl⟩))); clear hK K; (try simp only [Act.put, pa, pb, pc]))
    (refine tkW (i := 14) (v := ?_) (by (simp only [ga, gb, gc]; rfl)) (by kernel_rfl) (by (intro _ _ _ h; exact h)) (by rfl) ?_ (by assumption) ?_; rotate_left; (focus ((intro w hSw; (try dsimp only at hSw); go_simp) <;> with_reducible rfl)); (try simp only [Act.put, pa, pb, pc]))
    (refine tkW (i := 15) (v := ?_) (by (simp only [ga, gb, gc]; rfl)) (by kernel_rfl) (by (intro _ _ _ h; exact h)) (by rfl) ?_ (by assumption) ?_; rotate_left; (focus ((intro w hSw; (try dsimp only at hSw); go_simp) <;> with_reducible rfl)); (try simp only [Act.put, pa, pb, pc]))
    refine wpAnyH_done (by kernel_rfl) ?_ _
    clear y_t23
    have qBa0 : w6.cell? ⟨w1.heap.size, 0, none⟩ = some (.int .i64 za) := by rw [Ba_t23.cell]; rfl
    have qBa1 : w6.cell? ⟨w1.heap.size, 1, none⟩ = some (.slice ada la.length ca) := by rw [Ba_t23.cell]; rfl
    have qBx0 : w6.cell? ⟨w2.heap.size, 0, none⟩ = some (.int .i64 (za + 1)) := by rw [Bx_t23.cell]; rfl
    have qBx1 : w6.cell? ⟨w2.heap.size, 1, none⟩ = some (.slice adx RL.length cx) := by rw [Bx_t23.cell]; rfl
    go_wp2
    clear qBa0 qBa1 qBx0 qBx1
    go_loopw [9] (fun i W => ∃ k : Nat, (k : Int) ≤ za + 1 ∧ i = .int .i64 k ∧ Below w6.heap.size w6 W) (fun i _ => (za + 1 - intOf i).toNat)
    case atStart => exact ⟨0, by omega, rfl, Below.refl _ _⟩
    case round =>
      obtain ⟨k, hk, rfl, hbl⟩ := hrel
      have lq0 := hbl
      have a_t25 := a_t23.next hbl
      clear a_t23
      have ua_t25 := ua_t23.next hbl
      clear ua_t23
      have x_t25 := x_t23.next hbl
      clear x_t23
      have Ba_t25 := Ba_t23.next hbl
      clear Ba_t23
      have Bx_t25 := Bx_t23.next hbl
      clear Bx_t23
      have hw_t25 := below_next hw_t23 hbl
      have hs_t25 := hbl.size
      by_cases hlt : (k : Int) ≤ za
      · have hdk : decide ((k : Int) ≤ za) = true := decide_eq_true hlt
        have HA := Lib.hid (HPAST.out (k : Int) (by omega) hlt)
        have hal := versAt_length za la (k : Int)
        obtain ⟨R1, HR1⟩ : ∃ R1, Hid (versAt za la (k : Int) = R1) := ⟨_, Lib.hid rfl⟩
        rw [HR1.out] at hal
        have HR2 : Hid (versAt (za + 1) RL (k : Int) = R1) := Lib.hid (HA.out.trans HR1.out)
        have qBa0 : wr.cell? ⟨w1.heap.size, 0, none⟩ = some (.int .i64 za) := by rw [Ba_t25.cell]; rfl
        have qBa1 : wr.cell? ⟨w1.heap.size, 1, none⟩ = some (.slice ada la.length ca) := by rw [Ba_t25.cell]; rfl
        have qBx0 : wr.cell? ⟨w2.heap.size, 0, none⟩ = some (.int .i64 (za + 1)) := by rw [Bx_t25.cell]; rfl
        have qBx1 : wr.cell? ⟨w2.heap.size, 1, none⟩ = some (.slice adx RL.length cx) := by rw [Bx_t25.cell]; rfl
        go_wp2
        clear qBa0 qBa1 qBx0 qBx1
        have hb_t27 : Below wr.heap.size wr wr.drew := (Below.refl _ _).drew
        have a_t28 := a_t25.next hb_t27
        clear a_t25
        have ua_t28 := ua_t25.next hb_t27
        clear ua_t25
        have x_t28 := x_t25.next hb_t27
        clear x_t25
        have Ba_t28 := Ba_t25.next hb_t27
        clear Ba_t25
        have Bx_t28 := Bx_t25.next hb_t27
        clear Bx_t25
        have hw_t28 := below_next hw_t25 hb_t27
        have hs_t28 := hb_t27.size
        have lw0_t29 := below_next lq0 hb_t27
        refine wp_region_held_drew (S := (fun W => W.cell? ⟨w1.heap.size, 0, none⟩ = some (.int .i64 za) ∧ W.cell? ⟨w1.heap.size, 1, none⟩ = some (.slice ada la.length ca) ∧ W.cell? ⟨w2.heap.size, 0, none⟩ = some (.int .i64 (za + 1)) ∧ W.cell? ⟨w2.heap.size, 1, none⟩ = some (.slice adx RL.length cx))) (by kernel_rfl) ?_ (fun hHeld => ?_)
        focus ((try dsimp only); (exact ⟨by rw [Ba_t28.cell]; rfl, by rw [Ba_t28.cell]; rfl, by rw [Bx_t28.cell]; rfl, by rw [Bx_t28.cell]; rfl⟩))
        (refine tkW (i := 0) (v := ?_) (by (simp only [ga, gc]; rfl)) (by kernel_rfl) (by (intro _ _ _ h; exact h)) (by rfl) ?_ (by assumption) ?_; rotate_left; (focus ((intro w hSw; (try dsimp only at hSw); go_simp) <;> with_reducible rfl)); (try simp only [Act.put, pa, pb, pc]))
        (refine tkW (i := 1) (v := ?_) (by (simp only [ga, gb, gc]; rfl)) (by kernel_rfl) (by (intro _ _ _ h; exact h)) (by rfl) ?_ (by assumption) ?_; rotate_left; (focus ((intro w hSw; (try dsimp only at hSw); go_simp) <;> with_reducible rfl)); (try simp only [Act.put, pa, pb, pc]))
        (refine tkW (i := 3) (v := ?_) (by (simp only [ga, gb, gc]; rfl)) (by kernel_rfl) (by (intro _ _ _ h; exact h)) (by rfl) ?_ (by assumption) ?_; rotate_left; (focus ((intro w hSw; (try dsimp only at hSw); go_simp) <;> with_reducible rfl)); (try simp only [Act.put, pa, pb, pc]))
        (refine tkW (i := 4) (v := ?_) (by (simp only [ga, gb, gc]; rfl)) (by kernel_rfl) (by (intro _ _ _ h; exact h)) (by rfl) ?_ (by assumption) ?_; rotate_left; (focus ((intro w hSw; (try dsimp only at hSw); go_simp) <;> with_reducible rfl)); (try simp only [Act.put, pa, pb, pc]))
        (refine wpAnyH_ready (rs := [2]) (by kernel_rfl) (by simp) ?_; refine AllReadyH.cons (by (simp only [ga, gb, gc]; rfl)) (fun K hK => ?_) AllReadyH.nil; go_simp; (go_at_call 26; refine (implVersAtO (k : Int) x_t28 hfR (by omega)).mono ?_; rw [HR2.out]; rintro e w7 ⟨Vr, rfl, r_n, hb7⟩; obtain ⟨adr, cr, rfl, ry1_r, ry2_r, ry3_r⟩ := r_n.read; clear ry1_r ry2_r ry3_r; have a_t30 := a_t28.next hb7; clear a_t28; have ua_t30 := ua_t28.next hb7; clear ua_t28; have x_t30 := x_t28.next hb7; clear x_t28; have Ba_t30 := Ba_t28.next hb7; clear Ba_t28; have Bx_t30 := Bx_t28.next hb7; clear Bx_t28; have hw_t30 := below_next hw_t28 hb7; have hs_t30 := hb7.size; have lw0_t31 := below_next lw0_t29 hb7); go_wp2_with fail; refine hK.out _ _ ?_ (fun hHeld => ?_); (focus ((try dsimp only); (exact ⟨by rw [Ba_t30.cell]; rfl, by rw [Ba_t30.cell]; rfl, by rw [Bx_t30.cell]; rfl, by rw [Bx_t30.cell]; rfl⟩))); clear hK K; (try simp only [Act.put, pa, pb, pc]))
        (refine wpAnyH_ready (rs := [5]) (by kernel_rfl) (by simp) ?_; refine AllReadyH.cons (by (simp only [ga, gb, gc]; rfl)) (fun K hK => ?_) AllReadyH.nil; go_simp; (go_at_call 26; refine (implVersAtO (k : Int) a_t30 hfa (by omega)).mono ?_; rw [HR1.out]; rintro e w8 ⟨Vq, rfl, q_n, hb8⟩; obtain ⟨adq, cq, rfl, ry1_q, ry2_q, ry3_q⟩ := q_n.read; clear ry1_q ry2_q ry3_q; have a_t32 := a_t30.next hb8; clear a_t30; have ua_t32 := ua_t30.next hb8; clear ua_t30; have x_t32 := x_t30.next hb8; clear x_t30; have r_t32 := r_n.next hb8; clear r_n; have Ba_t32 := Ba_t30.next hb8; clear Ba_t30; have Bx_t32 := Bx_t30.next hb8; clear Bx_t30; have hw_t32 := below_next hw_t30 hb8; have hs_t32 := hb8.size; have lw0_t33 := below_next lw0_t31 hb8); go_wp2_with fail; refine hK.out _ _ ?_ (fun hHeld => ?_); (focus ((try dsimp only); (exact ⟨by rw [Ba_t32.cell]; rfl, by rw [Ba_t32.cell]; rfl, by rw [Bx_t32.cell]; rfl, by rw [Bx_t32.cell]; rfl⟩))); clear hK K; (try simp only [Act.put, pa, pb, pc]))
        (refine wpAnyH_ready (rs := [6]) (by kernel_rfl) (by simp) ?_; refine AllReadyH.cons (by (simp only [ga, gb, gc]; rfl)) (fun K hK => ?_) AllReadyH.nil; go_simp; (go_at_call 47; refine (wpO r_t32 q_n (by omega) (by omega)).mono ?_; rintro e w9 ⟨rfl, hb9⟩; rw [eqL_yes rfl]; have a_t34 := a_t32.next hb9; clear a_t32; have ua_t34 := ua_t32.next hb9; clear ua_t32; have x_t34 := x_t32.next hb9; clear x_t32; have r_t34 := r_t32.next hb9; clear r_t32; have q_t34 := q_n.next hb9; clear q_n; have Ba_t34 := Ba_t32.next hb9; clear Ba_t32; have Bx_t34 := Bx_t32.next hb9; clear Bx_t32; have hw_t34 := below_next hw_t32 hb9; have hs_t34 := hb9.size; have lw0_t35 := below_next lw0_t33 hb9); go_wp2_with fail; refine hK.out _ _ ?_ (fun hHeld => ?_); (focus ((try dsimp only); (exact ⟨by rw [Ba_t34.cell]; rfl, by rw [Ba_t34.cell]; rfl, by rw [Bx_t34.cell]; rfl, by rw [Bx_t34.cell]; rfl⟩))); clear hK K; (try simp only [Act.put, pa, pb, pc]))
        (refine tkW (i := 7) (v := ?_) (by (simp only [ga, gb, gc]; rfl)) (by kernel_rfl) (by (intro _ _ _ h; exact h)) (by rfl) ?_ (by assumption) ?_; rotate_left; (focus ((intro w hSw; (try dsimp only at hSw); go_simp) <;> with_reducible rfl)); (try simp only [Act.put, pa, pb, pc]))
        refine wpAnyH_done (by kernel_rfl) ?_ _
        have qBa0 : w9.cell? ⟨w1.heap.size, 0, none⟩ = some (.int .i64 za) := by rw [Ba_t34.cell]; rfl
        have qBa1 : w9.cell? ⟨w1.heap.size, 1, none⟩ = some (.slice ada la.length ca) := by rw [Ba_t34.cell]; rfl
        have qBx0 : w9.cell? ⟨w2.heap.size, 0, none⟩ = some (.int .i64 (za + 1)) := by rw [Bx_t34.cell]; rfl
        have qBx1 : w9.cell? ⟨w2.heap.size, 1, none⟩ = some (.slice adx RL.length cx) := by rw [Bx_t34.cell]; rfl
        go_wp2
        go_roundw
        case rel => exact ⟨k + 1, by omega, by go_num, lw0_t35⟩
        case measure => simp [intOf]; omega
      · have hdk : decide ((k : Int) ≤ za) = false := decide_eq_false hlt
        have hfr := fitR_versAt (z := za) hfa za
        obtain ⟨R0, HR0⟩ : ∃ R0, Hid (versAt za la za = R0) := ⟨_, Lib.hid rfl⟩
        rw [HR0.out] at hfr HHAND
        have qBa0 : wr.cell? ⟨w1.heap.size, 0, none⟩ = some (.int .i64 za) := by rw [Ba_t25.cell]; rfl
        have qBa1 : wr.cell? ⟨w1.heap.size, 1, none⟩ = some (.slice ada la.length ca) := by rw [Ba_t25.cell]; rfl
        have qBx0 : wr.cell? ⟨w2.heap.size, 0, none⟩ = some (.int .i64 (za + 1)) := by rw [Bx_t25.cell]; rfl
        have qBx1 : wr.cell? ⟨w2.heap.size, 1, none⟩ = some (.slice adx RL.length cx) := by rw [Bx_t25.cell]; rfl
        go_wp2_with fail
        clear qBa0 qBa1 qBx0 qBx1
        refine (implVersAtO za a_t25 hfa (by omega)).mono ?_
        rw [HR0.out]
        rintro e w7 ⟨Vr, rfl, r_n, hb7⟩
        obtain ⟨adr, cr, rfl, ry1_r, ry2_r, ry3_r⟩ := r_n.read
        clear ry1_r ry2_r ry3_r
        have a_t27 := a_t25.next hb7
        clear a_t25
        have ua_t27 := ua_t25.next hb7
        clear ua_t25
        have x_t27 := x_t25.next hb7
        clear x_t25
        have Ba_t27 := Ba_t25.next hb7
        clear Ba_t25
        have Bx_t27 := Bx_t25.next hb7
        clear Bx_t25
        have hw_t27 := below_next hw_t25 hb7
        have hs_t27 := hb7.size
        have hrl := r_n.low (show w.heap.size ≤ _ from by omega)
        clear r_n
        have qBa0 : w7.cell? ⟨w1.heap.size, 0, none⟩ = some (.int .i64 za) := by rw [Ba_t27.cell]; rfl
        have qBa1 : w7.cell? ⟨w1.heap.size, 1, none⟩ = some (.slice ada la.length ca) := by rw [Ba_t27.cell]; rfl
        have qBx0 : w7.cell? ⟨w2.heap.size, 0, none⟩ = some (.int .i64 (za + 1)) := by rw [Bx_t27.cell]; rfl
        have qBx1 : w7.cell? ⟨w2.heap.size, 1, none⟩ = some (.slice adx RL.length cx) := by rw [Bx_t27.cell]; rfl
        go_wp2
        clear qBa0 qBa1 qBx0 qBx1
        go_loopw [10, 11] (fun v i W => ∃ j : Nat, j ≤ xa.length ∧ i = .int .i64 j ∧ OwnR W w.heap.size v (cutN R0 (xa.take j)) ∧ Below w7.heap.size w7 W) (fun _ i _ => xa.length - (intOf i).toNat)
        case atStart => exact ⟨0, Nat.zero_le _, rfl, hrl, Below.refl _ _⟩
        case round =>
          obtain ⟨j, hj, rfl, hO, hbm⟩ := hrel
          have lq0 := hbm
          have a_t29 := a_t27.next hbm
          clear a_t27
          have ua_t29 := ua_t27.next hbm
          clear ua_t27
          have x_t29 := x_t27.next hbm
          clear x_t27
          have Ba_t29 := Ba_t27.next hbm
          clear Ba_t27
          have Bx_t29 := Bx_t27.next hbm
          clear Bx_t27
          have hw_t29 := below_next hw_t27 hbm
          have hs_t29 := hbm.size
          have hl10 := (rowsP_iff.1 (HHAND.out.2 j).1).1
          have hfc := hfr.cutN (xa.take j)
          by_cases hjt : j < xa.length
          · have hjI := lenI _ _ hjt
            have HS := Lib.hid (cutN_succ R0 hjt)
            obtain ⟨C, HC⟩ : ∃ C, Hid (cutN R0 (xa.take j) = C) := ⟨_, Lib.hid rfl⟩
            rw [HC.out] at hl10 hfc hO
            obtain ⟨ebF, eoF, rfl, hqF, _⟩ := (ua_t29.rd'.2.2.2).atX hjt
            clear hqF
            cases hg : xa[j].g
            · have HE : Hid (cutN R0 (xa.take (j + 1)) = C) := Lib.hid (by rw [HS.out, hg, HC.out]; rfl)
              clear HS
              have qBa0 : wr.cell? ⟨w1.heap.size, 0, none⟩ = some (.int .i64 za) := by rw [Ba_t29.cell]; rfl
              have qBa1 : wr.cell? ⟨w1.heap.size, 1, none⟩ = some (.slice ada la.length ca) := by rw [Ba_t29.cell]; rfl
              have qBx0 : wr.cell? ⟨w2.heap.size, 0, none⟩ = some (.int .i64 (za + 1)) := by rw [Bx_t29.cell]; rfl
              have qBx1 : wr.cell? ⟨w2.heap.size, 1, none⟩ = some (.slice adx RL.length cx) := by rw [Bx_t29.cell]; rfl
              have qF0 : wr.cell? ⟨ebF, eoF + j * 3, none⟩ = some (.string xa[j].k) := ((ua_t29.rd'.2.2.2).fixX rfl hjt).1
              have qF1 : wr.cell? ⟨ebF, eoF + j * 3 + 1, none⟩ = some (.int .i64 xa[j].n) := ((ua_t29.rd'.2.2.2).fixX rfl hjt).2.1
              have qF2 : wr.cell? ⟨ebF, eoF + j * 3 + 2, none⟩ = some (.bool xa[j].g) := ((ua_t29.rd'.2.2.2).fixX rfl hjt).2.2
              go_wp2
              go_roundw
              case rel => exact ⟨j + 1, by omega, by go_num, by rw [HE.out]; exact hO, lq0⟩
              case measure => simp [intOf]; omega
            · have HE : Hid (cutN R0 (xa.take (j + 1)) = cutV C xa[j].k) := Lib.hid (by rw [HS.out, hg, HC.out]; rfl)
              clear HS
              obtain ⟨Ac, cc, rfl, hc1, hc2, hc3⟩ := hO.read
              clear hc1 hc2 hc3
              have qBa0 : wr.cell? ⟨w1.heap.size, 0, none⟩ = some (.int .i64 za) := by rw [Ba_t29.cell]; rfl
              have qBa1 : wr.cell? ⟨w1.heap.size, 1, none⟩ = some (.slice ada la.length ca) := by rw [Ba_t29.cell]; rfl
              have qBx0 : wr.cell? ⟨w2.heap.size, 0, none⟩ = some (.int .i64 (za + 1)) := by rw [Bx_t29.cell]; rfl
              have qBx1 : wr.cell? ⟨w2.heap.size, 1, none⟩ = some (.slice adx RL.length cx) := by rw [Bx_t29.cell]; rfl
              have qF0 : wr.cell? ⟨ebF, eoF + j * 3, none⟩ = some (.string xa[j].k) := ((ua_t29.rd'.2.2.2).fixX rfl hjt).1
              have qF1 : wr.cell? ⟨ebF, eoF + j * 3 + 1, none⟩ = some (.int .i64 xa[j].n) := ((ua_t29.rd'.2.2.2).fixX rfl hjt).2.1
              have qF2 : wr.cell? ⟨ebF, eoF + j * 3 + 2, none⟩ = some (.bool xa[j].g) := ((ua_t29.rd'.2.2.2).fixX rfl hjt).2.2
              go_wp2_with fail
              clear qBa0 qBa1 qBx0 qBx1
              clear qF0 qF1 qF2
              refine (implCutO xa[j].k hO hfc (by omega)).mono ?_
              rintro e w8 ⟨Vs, rfl, s_n, hb8⟩
              obtain ⟨ads, cs, rfl, ry1_s, ry2_s, ry3_s⟩ := s_n.read
              clear ry1_s ry2_s ry3_s
              have a_t31 := a_t29.next hb8
              clear a_t29
              have ua_t31 := ua_t29.next hb8
              clear ua_t29
              have x_t31 := x_t29.next hb8
              clear x_t29
              have o_t31 := hO.next hb8
              clear hO
              have Ba_t31 := Ba_t29.next hb8
              clear Ba_t29
              have Bx_t31 := Bx_t29.next hb8
              clear Bx_t29
              have hw_t31 := below_next hw_t29 hb8
              have hs_t31 := hb8.size
              have lw0_t32 := below_next lq0 hb8
              have hsl := s_n.low (show w.heap.size ≤ _ from by omega)
              have qBa0 : w8.cell? ⟨w1.heap.size, 0, none⟩ = some (.int .i64 za) := by rw [Ba_t31.cell]; rfl
              have qBa1 : w8.cell? ⟨w1.heap.size, 1, none⟩ = some (.slice ada la.length ca) := by rw [Ba_t31.cell]; rfl
              have qBx0 : w8.cell? ⟨w2.heap.size, 0, none⟩ = some (.int .i64 (za + 1)) := by rw [Bx_t31.cell]; rfl
              have qBx1 : w8.cell? ⟨w2.heap.size, 1, none⟩ = some (.slice adx RL.length cx) := by rw [Bx_t31.cell]; rfl
              have qF0 : w8.cell? ⟨ebF, eoF + j * 3, none⟩ = some (.string xa[j].k) := ((ua_t31.rd'.2.2.2).fixX rfl hjt).1
              have qF1 : w8.cell? ⟨ebF, eoF + j * 3 + 1, none⟩ = some (.int .i64 xa[j].n) := ((ua_t31.rd'.2.2.2).fixX rfl hjt).2.1
              have qF2 : w8.cell? ⟨ebF, eoF + j * 3 + 2, none⟩ = some (.bool xa[j].g) := ((ua_t31.rd'.2.2.2).fixX rfl hjt).2.2
              go_wp2
              go_roundw
              case rel => exact ⟨j + 1, by omega, by go_num, by rw [HE.out]; exact hsl, lw0_t32⟩
              case measure => simp [intOf]; omega
          · have hjI : decide ((j : Int) < (xa.length : Int)) = false := decide_eq_false (by omega)
            have ej : j = xa.length := by omega
            rw [ej, List.take_length] at hO hfc
            clear ej hl10
            obtain ⟨C, HC⟩ : ∃ C, Hid (cutN R0 xa = C) := ⟨_, Lib.hid rfl⟩
            rw [HC.out] at hO hfc
            have HH2 := HHAND.out
            rw [HC.out] at HH2
            have HH2 := Lib.hid HH2
            clear HHAND
            have qBa0 : wr.cell? ⟨w1.heap.size, 0, none⟩ = some (.int .i64 za) := by rw [Ba_t29.cell]; rfl
            have qBa1 : wr.cell? ⟨w1.heap.size, 1, none⟩ = some (.slice ada la.length ca) := by rw [Ba_t29.cell]; rfl
            have qBx0 : wr.cell? ⟨w2.heap.size, 0, none⟩ = some (.int .i64 (za + 1)) := by rw [Bx_t29.cell]; rfl
            have qBx1 : wr.cell? ⟨w2.heap.size, 1, none⟩ = some (.slice adx RL.length cx) := by rw [Bx_t29.cell]; rfl
            go_wp2
            clear qBa0 qBa1 qBx0 qBx1
            go_loopw [10, 12] (fun v i W => ∃ j : Nat, j ≤ xa.length ∧ i = .int .i64 j ∧ OwnR W w.heap.size v (putN C (xa.take j)) ∧ Below wr.heap.size wr W) (fun _ i _ => xa.length - (intOf i).toNat)
            case atStart => exact ⟨0, Nat.zero_le _, rfl, hO, Below.refl _ _⟩
            case round =>
              obtain ⟨j2, hj2, rfl, hO2, hbm2⟩ := hrel
              have lq0 := hbm2
              have a_t31 := a_t29.next hbm2
              clear a_t29
              have ua_t31 := ua_t29.next hbm2
              clear ua_t29
              have x_t31 := x_t29.next hbm2
              clear x_t29
              have Ba_t31 := Ba_t29.next hbm2
              clear Ba_t29
              have Bx_t31 := Bx_t29.next hbm2
              clear Bx_t29
              have hw_t31 := below_next hw_t29 hbm2
              have hs_t31 := hbm2.size
              clear hO
              have hl10 := (rowsP_iff.1 (HH2.out.2 j2).2).1
              have hfp := hfc.putN (xa.take j2) (fun x hx => hfxa x (List.mem_of_mem_take hx))
              by_cases hj2t : j2 < xa.length
              · have hj2I := lenI _ _ hj2t
                have HS := Lib.hid (putN_succ C hj2t)
                obtain ⟨D, HD⟩ : ∃ D, Hid (putN C (xa.take j2) = D) := ⟨_, Lib.hid rfl⟩
                rw [HD.out] at hl10 hfp hO2
                obtain ⟨ebG, eoG, rfl, hqG, _⟩ := (ua_t31.rd'.2.2.2).atX hj2t
                clear hqG
                cases hg : xa[j2].g
                · have HE : Hid (putN C (xa.take (j2 + 1)) = putV D xa[j2].k xa[j2].n) := Lib.hid (by rw [HS.out, hg, HD.out]; rfl)
                  clear HS
                  have hfx1 : FitR [(xa[j2].k, xa[j2].n)] := fun r hr => by simp only [List.mem_singleton] at hr; subst hr; exact hfxa _ (List.getElem_mem hj2t)
                  obtain ⟨Ac, cc, rfl, hc1, hc2, hc3⟩ := hO2.read
                  clear hc1 hc2 hc3
                  have qBa0 : wr.cell? ⟨w1.heap.size, 0, none⟩ = some (.int .i64 za) := by rw [Ba_t31.cell]; rfl
                  have qBa1 : wr.cell? ⟨w1.heap.size, 1, none⟩ = some (.slice ada la.length ca) := by rw [Ba_t31.cell]; rfl
                  have qBx0 : wr.cell? ⟨w2.heap.size, 0, none⟩ = some (.int .i64 (za + 1)) := by rw [Bx_t31.cell]; rfl
                  have qBx1 : wr.cell? ⟨w2.heap.size, 1, none⟩ = some (.slice adx RL.length cx) := by rw [Bx_t31.cell]; rfl
                  have qG0 : wr.cell? ⟨ebG, eoG + j2 * 3, none⟩ = some (.string xa[j2].k) := ((ua_t31.rd'.2.2.2).fixX rfl hj2t).1
                  have qG1 : wr.cell? ⟨ebG, eoG + j2 * 3 + 1, none⟩ = some (.int .i64 xa[j2].n) := ((ua_t31.rd'.2.2.2).fixX rfl hj2t).2.1
                  have qG2 : wr.cell? ⟨ebG, eoG + j2 * 3 + 2, none⟩ = some (.bool xa[j2].g) := ((ua_t31.rd'.2.2.2).fixX rfl hj2t).2.2
                  go_wp2
                  clear qBa0 qBa1 qBx0 qBx1
                  clear qG0 qG1 qG2
                  have hb_t33 : Below wr.heap.size wr wr.drew := (Below.refl _ _).drew
                  have a_t34 := a_t31.next hb_t33
                  clear a_t31
                  have ua_t34 := ua_t31.next hb_t33
                  clear ua_t31
                  have x_t34 := x_t31.next hb_t33
                  clear x_t31
                  have o_t34 := hO2.next hb_t33
                  clear hO2
                  have Ba_t34 := Ba_t31.next hb_t33
                  clear Ba_t31
                  have Bx_t34 := Bx_t31.next hb_t33
                  clear Bx_t31
                  have hw_t34 := below_next hw_t31 hb_t33
                  have hs_t34 := hb_t33.size
                  have lw0_t35 := below_next lq0 hb_t33
                  refine wp_region_held_drew (S := (fun W => W.cell? ⟨w1.heap.size, 0, none⟩ = some (.int .i64 za) ∧ W.cell? ⟨w1.heap.size, 1, none⟩ = some (.slice ada la.length ca) ∧ W.cell? ⟨w2.heap.size, 0, none⟩ = some (.int .i64 (za + 1)) ∧ W.cell? ⟨w2.heap.size, 1, none⟩ = some (.slice adx RL.length cx) ∧ W.cell? ⟨ebG, eoG + j2 * 3, none⟩ = some (.string xa[j2].k) ∧ W.cell? ⟨ebG, eoG + j2 * 3 + 1, none⟩ = some (.int .i64 xa[j2].n) ∧ W.cell? ⟨ebG, eoG + j2 * 3 + 2, none⟩ = some (.bool xa[j2].g))) (by kernel_rfl) ?_ (fun hHeld => ?_)
                  focus ((try dsimp only); (exact ⟨by rw [Ba_t34.cell]; rfl, by rw [Ba_t34.cell]; rfl, by rw [Bx_t34.cell]; rfl, by rw [Bx_t34.cell]; rfl, ((ua_t34.rd'.2.2.2).fixX rfl hj2t).1, ((ua_t34.rd'.2.2.2).fixX rfl hj2t).2.1, ((ua_t34.rd'.2.2.2).fixX rfl hj2t).2.2⟩))
                  (refine tkW (i := 0) (v := ?_) (by (simp only [ga, gc]; rfl)) (by kernel_rfl) (by (intro _ _ _ h; exact h)) (by rfl) ?_ (by assumption) ?_; rotate_left; (focus ((intro w hSw; (try dsimp only at hSw); go_simp) <;> with_reducible rfl)); (try simp only [Act.put, pa, pb, pc]))
                  (refine tkW (i := 1) (v := ?_) (by (simp only [ga, gb, gc]; rfl)) (by kernel_rfl) (by (intro _ _ _ h; exact h)) (by rfl) ?_ (by assumption) ?_; rotate_left; (focus ((intro w hSw; (try dsimp only at hSw); go_simp) <;> with_reducible rfl)); (try simp only [Act.put, pa, pb, pc]))
                  (refine tkW (i := 2) (v := ?_) (by (simp only [ga, gb, gc]; rfl)) (by kernel_rfl) (by (intro _ _ _ h; exact h)) (by rfl) ?_ (by assumption) ?_; rotate_left; (focus ((intro w hSw; (try dsimp only at hSw); go_simp) <;> with_reducible rfl)); (try simp only [Act.put, pa, pb, pc]))
                  (refine tkW (i := 3) (v := ?_) (by (simp only [ga, gb, gc]; rfl)) (by kernel_rfl) (by (intro _ _ _ h; exact h)) (by rfl) ?_ (by assumption) ?_; rotate_left; (focus ((intro w hSw; (try dsimp only at hSw); go_simp) <;> with_reducible rfl)); (try simp only [Act.put, pa, pb, pc]))
                  (refine tkW (i := 4) (v := ?_) (by (simp only [ga, gb, gc]; rfl)) (by kernel_rfl) (by (intro _ _ _ h; exact h)) (by rfl) ?_ (by assumption) ?_; rotate_left; (focus ((intro w hSw; (try dsimp only at hSw); go_simp) <;> with_reducible rfl)); (try simp only [Act.put, pa, pb, pc]))
                  (refine tkW (i := 5) (v := ?_) (by (simp only [ga, gb, gc]; rfl)) (by kernel_rfl) (by (intro _ _ _ h; exact h)) (by rfl) ?_ (by assumption) ?_; rotate_left; (focus ((intro w hSw; (try dsimp only at hSw); go_simp) <;> with_reducible rfl)); (try simp only [Act.put, pa, pb, pc]))
                  (refine tkW (i := 6) (v := ?_) (by (simp only [ga, gb, gc]; rfl)) (by kernel_rfl) (by (intro _ _ _ h; exact h)) (by rfl) ?_ (by assumption) ?_; rotate_left; (focus ((intro w hSw; (try dsimp only at hSw); go_simp) <;> with_reducible rfl)); (try simp only [Act.put, pa, pb, pc]))
                  (refine tkW (i := 7) (v := ?_) (by (simp only [ga, gb, gc]; rfl)) (by kernel_rfl) (by (intro _ _ _ h; exact h)) (by rfl) ?_ (by assumption) ?_; rotate_left; (focus ((intro w hSw; (try dsimp only at hSw); go_simp) <;> with_reducible rfl)); (try simp only [Act.put, pa, pb, pc]))
                  (refine tkW (i := 8) (v := ?_) (by (simp only [ga, gb, gc]; rfl)) (by kernel_rfl) (by (intro _ _ _ h; exact h)) (by rfl) ?_ (by assumption) ?_; rotate_left; (focus ((intro w hSw; (try dsimp only at hSw); go_simp) <;> with_reducible rfl)); (try simp only [Act.put, pa, pb, pc]))
                  (refine tkW (i := 9) (v := ?_) (by (simp only [ga, gb, gc]; rfl)) (by kernel_rfl) (by (intro _ _ _ h; exact h)) (by rfl) ?_ (by assumption) ?_; rotate_left; (focus ((intro w hSw; (try dsimp only at hSw); go_simp) <;> with_reducible rfl)); (try simp only [Act.put, pa, pb, pc]))
                  (refine tkW (i := 10) (v := ?_) (by (simp only [ga, gb, gc]; rfl)) (by kernel_rfl) (by (intro _ _ _ h; exact h)) (by rfl) ?_ (by assumption) ?_; rotate_left; (focus ((intro w hSw; (try dsimp only at hSw); go_simp) <;> with_reducible rfl)); (try simp only [Act.put, pa, pb, pc]))
                  (refine wpAnyH_ready (rs := [11]) (by kernel_rfl) (by simp) ?_; refine AllReadyH.cons (by (simp only [ga, gb, gc]; rfl)) (fun K hK => ?_) AllReadyH.nil; go_simp; (go_at_call 49; refine (implPutO xa[j2].k xa[j2].n o_t34 hfp hfx1 (by omega)).mono ?_; rintro e w8 ⟨Vs, rfl, s_n, hb8⟩; obtain ⟨ads, cs, rfl, ry1_s, ry2_s, ry3_s⟩ := s_n.read; clear ry1_s ry2_s ry3_s; have a_t36 := a_t34.next hb8; clear a_t34; have ua_t36 := ua_t34.next hb8; clear ua_t34; have x_t36 := x_t34.next hb8; clear x_t34; have o_t36 := o_t34.next hb8; clear o_t34; have Ba_t36 := Ba_t34.next hb8; clear Ba_t34; have Bx_t36 := Bx_t34.next hb8; clear Bx_t34; have hw_t36 := below_next hw_t34 hb8; have hs_t36 := hb8.size; have lw0_t37 := below_next lw0_t35 hb8); go_wp2_with fail; refine hK.out _ _ ?_ (fun hHeld => ?_); (focus ((try dsimp only); (exact ⟨by rw [Ba_t36.cell]; rfl, by rw [Ba_t36.cell]; rfl, by rw [Bx_t36.cell]; rfl, by rw [Bx_t36.cell]; rfl, ((ua_t36.rd'.2.2.2).fixX rfl hj2t).1, ((ua_t36.rd'.2.2.2).fixX rfl hj2t).2.1, ((ua_t36.rd'.2.2.2).fixX rfl hj2t).2.2⟩))); clear hK K; (try simp only [Act.put, pa, pb, pc]))
                  (refine tkW (i := 12) (v := ?_) (by (simp only [ga, gb, gc]; rfl)) (by kernel_rfl) (by (intro _ _ _ h; exact h)) (by rfl) ?_ (by assumption) ?_; rotate_left; (focus ((intro w hSw; (try dsimp only at hSw); go_simp) <;> with_reducible rfl)); (try simp only [Act.put, pa, pb, pc]))
                  (refine tkW (i := 13) (v := ?_) (by (simp only [ga, gb, gc]; rfl)) (by kernel_rfl) (by (intro _ _ _ h; exact h)) (by rfl) ?_ (by assumption) ?_; rotate_left; (focus ((intro w hSw; (try dsimp only at hSw); go_simp) <;> with_reducible rfl)); (try simp only [Act.put, pa, pb, pc]))
                  (refine tkW (i := 14) (v := ?_) (by (simp only [ga, gb, gc]; rfl)) (by kernel_rfl) (by (intro _ _ _ h; exact h)) (by rfl) ?_ (by assumption) ?_; rotate_left; (focus ((intro w hSw; (try dsimp only at hSw); go_simp) <;> with_reducible rfl)); (try simp only [Act.put, pa, pb, pc]))
                  (refine tkW (i := 15) (v := ?_) (by (simp only [ga, gb, gc]; rfl)) (by kernel_rfl) (by (intro _ _ _ h; exact h)) (by rfl) ?_ (by assumption) ?_; rotate_left; (focus ((intro w hSw; (try dsimp only at hSw); go_simp) <;> with_reducible rfl)); (try simp only [Act.put, pa, pb, pc]))
                  refine wpAnyH_done (by kernel_rfl) ?_ _
                  have hsl := s_n.low (show w.heap.size ≤ _ from by omega)
                  have qBa0 : w8.cell? ⟨w1.heap.size, 0, none⟩ = some (.int .i64 za) := by rw [Ba_t36.cell]; rfl
                  have qBa1 : w8.cell? ⟨w1.heap.size, 1, none⟩ = some (.slice ada la.length ca) := by rw [Ba_t36.cell]; rfl
                  have qBx0 : w8.cell? ⟨w2.heap.size, 0, none⟩ = some (.int .i64 (za + 1)) := by rw [Bx_t36.cell]; rfl
                  have qBx1 : w8.cell? ⟨w2.heap.size, 1, none⟩ = some (.slice adx RL.length cx) := by rw [Bx_t36.cell]; rfl
                  have qG0 : w8.cell? ⟨ebG, eoG + j2 * 3, none⟩ = some (.string xa[j2].k) := ((ua_t36.rd'.2.2.2).fixX rfl hj2t).1
                  have qG1 : w8.cell? ⟨ebG, eoG + j2 * 3 + 1, none⟩ = some (.int .i64 xa[j2].n) := ((ua_t36.rd'.2.2.2).fixX rfl hj2t).2.1
                  have qG2 : w8.cell? ⟨ebG, eoG + j2 * 3 + 2, none⟩ = some (.bool xa[j2].g) := ((ua_t36.rd'.2.2.2).fixX rfl hj2t).2.2
                  go_wp2
                  go_roundw
                  case rel => exact ⟨j2 + 1, by omega, by go_num, by rw [HE.out]; exact hsl, lw0_t37⟩
                  case measure => simp [intOf]; omega
                · have HE : Hid (putN C (xa.take (j2 + 1)) = D) := Lib.hid (by rw [HS.out, hg, HD.out]; rfl)
                  clear HS
                  have qBa0 : wr.cell? ⟨w1.heap.size, 0, none⟩ = some (.int .i64 za) := by rw [Ba_t31.cell]; rfl
                  have qBa1 : wr.cell? ⟨w1.heap.size, 1, none⟩ = some (.slice ada la.length ca) := by rw [Ba_t31.cell]; rfl
                  have qBx0 : wr.cell? ⟨w2.heap.size, 0, none⟩ = some (.int .i64 (za + 1)) := by rw [Bx_t31.cell]; rfl
                  have qBx1 : wr.cell? ⟨w2.heap.size, 1, none⟩ = some (.slice adx RL.length cx) := by rw [Bx_t31.cell]; rfl
                  have qG0 : wr.cell? ⟨ebG, eoG + j2 * 3, none⟩ = some (.string xa[j2].k) := ((ua_t31.rd'.2.2.2).fixX rfl hj2t).1
                  have qG1 : wr.cell? ⟨ebG, eoG + j2 * 3 + 1, none⟩ = some (.int .i64 xa[j2].n) := ((ua_t31.rd'.2.2.2).fixX rfl hj2t).2.1
                  have qG2 : wr.cell? ⟨ebG, eoG + j2 * 3 + 2, none⟩ = some (.bool xa[j2].g) := ((ua_t31.rd'.2.2.2).fixX rfl hj2t).2.2
                  go_wp2
                  go_roundw
                  case rel => exact ⟨j2 + 1, by omega, by go_num, by rw [HE.out]; exact hO2, lq0⟩
                  case measure => simp [intOf]; omega
              · have hj2I : decide ((j2 : Int) < (xa.length : Int)) = false := decide_eq_false (by omega)
                have ej : j2 = xa.length := by omega
                rw [ej, List.take_length] at hO2 hl10
                clear ej
                obtain ⟨D, HD⟩ : ∃ D, Hid (versAt (za + 1) RL (za + 1) = D) := ⟨_, Lib.hid rfl⟩
                rw [HH2.out.1, HD.out] at hO2 hl10
                obtain ⟨Ac, cc, rfl, hc1, hc2, hc3⟩ := hO2.read
                clear hc1 hc2 hc3
                have hwz : IntKind.i64.wrap (za + 1) = za + 1 := IntWalk.i64_in _ (by omega)
                have qBa0 : wr.cell? ⟨w1.heap.size, 0, none⟩ = some (.int .i64 za) := by rw [Ba_t31.cell]; rfl
                have qBa1 : wr.cell? ⟨w1.heap.size, 1, none⟩ = some (.slice ada la.length ca) := by rw [Ba_t31.cell]; rfl
                have qBx0 : wr.cell? ⟨w2.heap.size, 0, none⟩ = some (.int .i64 (za + 1)) := by rw [Bx_t31.cell]; rfl
                have qBx1 : wr.cell? ⟨w2.heap.size, 1, none⟩ = some (.slice adx RL.length cx) := by rw [Bx_t31.cell]; rfl
                go_wp2_with fail
                clear qBa0 qBa1 qBx0 qBx1
                refine (implVersOkO x_t31 hfR).mono ?_
                rintro e w8 ⟨rfl, hb8⟩
                rw [HVR.out]
                have a_t33 := a_t31.next hb8
                clear a_t31
                have ua_t33 := ua_t31.next hb8
                clear ua_t31
                have x_t33 := x_t31.next hb8
                clear x_t31
                have o_t33 := hO2.next hb8
                clear hO2
                have Ba_t33 := Ba_t31.next hb8
                clear Ba_t31
                have Bx_t33 := Bx_t31.next hb8
                clear Bx_t31
                have hw_t33 := below_next hw_t31 hb8
                have hs_t33 := hb8.size
                have lw0_t34 := below_next lq0 hb8
                have qBa0 : w8.cell? ⟨w1.heap.size, 0, none⟩ = some (.int .i64 za) := by rw [Ba_t33.cell]; rfl
                have qBa1 : w8.cell? ⟨w1.heap.size, 1, none⟩ = some (.slice ada la.length ca) := by rw [Ba_t33.cell]; rfl
                have qBx0 : w8.cell? ⟨w2.heap.size, 0, none⟩ = some (.int .i64 (za + 1)) := by rw [Bx_t33.cell]; rfl
                have qBx1 : w8.cell? ⟨w2.heap.size, 1, none⟩ = some (.slice adx RL.length cx) := by rw [Bx_t33.cell]; rfl
                go_wp2_with fail
                clear qBa0 qBa1 qBx0 qBx1
                refine (implVersAtO (za + 1) x_t33 hfR (by omega)).mono ?_
                rw [HD.out]
                rintro e w9 ⟨Vt, rfl, t_n, hb9⟩
                obtain ⟨adt, ct, rfl, ry1_t, ry2_t, ry3_t⟩ := t_n.read
                clear ry1_t ry2_t ry3_t
                have a_t35 := a_t33.next hb9
                clear a_t33
                have ua_t35 := ua_t33.next hb9
                clear ua_t33
                have x_t35 := x_t33.next hb9
                clear x_t33
                have o_t35 := o_t33.next hb9
                clear o_t33
                have Ba_t35 := Ba_t33.next hb9
                clear Ba_t33
                have Bx_t35 := Bx_t33.next hb9
                clear Bx_t33
                have hw_t35 := below_next hw_t33 hb9
                have hs_t35 := hb9.size
                have lw0_t36 := below_next lw0_t34 hb9
                have qBa0 : w9.cell? ⟨w1.heap.size, 0, none⟩ = some (.int .i64 za) := by rw [Ba_t35.cell]; rfl
                have qBa1 : w9.cell? ⟨w1.heap.size, 1, none⟩ = some (.slice ada la.length ca) := by rw [Ba_t35.cell]; rfl
                have qBx0 : w9.cell? ⟨w2.heap.size, 0, none⟩ = some (.int .i64 (za + 1)) := by rw [Bx_t35.cell]; rfl
                have qBx1 : w9.cell? ⟨w2.heap.size, 1, none⟩ = some (.slice adx RL.length cx) := by rw [Bx_t35.cell]; rfl
                go_wp2_with fail
                clear qBa0 qBa1 qBx0 qBx1
                refine (wpO t_n o_t35 (by omega) (by omega)).mono ?_
                rintro e w10 ⟨rfl, hb10⟩
                rw [eqL_yes rfl]
                have a_t37 := a_t35.next hb10
                clear a_t35
                have ua_t37 := ua_t35.next hb10
                clear ua_t35
                have x_t37 := x_t35.next hb10
                clear x_t35
                have o_t37 := o_t35.next hb10
                clear o_t35
                have t_t37 := t_n.next hb10
                clear t_n
                have Ba_t37 := Ba_t35.next hb10
                clear Ba_t35
                have Bx_t37 := Bx_t35.next hb10
                clear Bx_t35
                have hw_t37 := below_next hw_t35 hb10
                have hs_t37 := hb10.size
                have lw0_t38 := below_next lw0_t36 hb10
                have qBa0 : w10.cell? ⟨w1.heap.size, 0, none⟩ = some (.int .i64 za) := by rw [Ba_t37.cell]; rfl
                have qBa1 : w10.cell? ⟨w1.heap.size, 1, none⟩ = some (.slice ada la.length ca) := by rw [Ba_t37.cell]; rfl
                have qBx0 : w10.cell? ⟨w2.heap.size, 0, none⟩ = some (.int .i64 (za + 1)) := by rw [Bx_t37.cell]; rfl
                have qBx1 : w10.cell? ⟨w2.heap.size, 1, none⟩ = some (.slice adx RL.length cx) := by rw [Bx_t37.cell]; rfl
                go_wp2
                go_ret
                exact ⟨rfl, hw_t37⟩

set_option maxRecDepth 100000 in
theorem lifted (os : Os) (started : os.Started) (H : Type) (enc : TypeId × Value → H) :
    ReturnsInHanded {} Try.checked os 10 .any (Rows.fnVersDoSpec.pre6 enc Try.prog Try.f10 Rows.fnVersDoRow.domain false) (Rows.fnVersDoSpec.post enc Try.prog Try.f10 false true false false) := by
  refine returnsInHanded_of_change (C := Try.checked) Whole.own started (by kernel_rfl) Try.func10
    (ChangeSpec.witness6 (enc := enc) (C := Try.checked) false ⟨#[], #[.slice none 0 0], []⟩ 8 (by kernel_rfl) (by kernel_rfl) (by kernel_rfl) (by kernel_rfl)) ?_
  intro W base args ds gs before hval0 hW hcnd _
  have hval : ∀ (j : Nat) t v, Try.f10.params[j]? = some t → args[j]? = some v → Value.okWide Try.prog W .any base t v := hval0
  have hW' := hW
  obtain ⟨p, q, hA0, hV, rfl, hfz, hnd⟩ := hW
  have hA : DataW.TrodAll enc Try.prog W 0 (fun _ => true) true Try.f10.params.toList args.toList ds p := hA0
  rw [Try.params10] at hA hval
  obtain ⟨v0, vs0, d0, ds0, p0, q0, hargs, rfl, rfl, h0, r0⟩ := trodAll_cons hA
  obtain ⟨rfl, rfl, rfl⟩ := trodAll_nil r0
  obtain rfl : args = #[v0] := by cases args; simp_all
  obtain ⟨rfl, rfl⟩ := trodVars_none hV
  have k0 := h0
  have lt0 : ∀ x ∈ p0, x.block < W.heap.size := by obtain ⟨m, hm⟩ := k0; exact DataW.trod_lt m _ _ _ hm
  obtain ⟨A0, n0, c0, rfl, hc0, hm0, hr0⟩ := openBytes (hval 0 54 v0 rfl rfl) h0
  clear hA0 hval0
  refine (walk A0 n0 c0 W hc0 hm0 hr0).mono fun e W' ⟨he, bel⟩ => ?_
  subst he
  exact ⟨_, rfl, _, _, _, [], _, [], hW', trodAll_mk1 (shut_bool Try.underlying4 _), (trodAll_cons_mk (Below.trod Whole.laidOut (by kernel_rfl) (of_decide_eq_true (by kernel_rfl)) k0 bel lt0) trodAll_mk0), rfl, bel.frame _, fun h => by cases h⟩

theorem named : Try.prog.funcNamed Rows.fnVersDoRow.func = some 10 := by kernel_rfl
theorem closed : Whole.lawFacts Try.prog 10 Try.f10 Rows.fnVersDoSpec Rows.fnVersDoRow = true := by kernel_rfl
theorem inst : Try.f10.isInstance Try.prog Rows.fnVersDoRow.origin Rows.fnVersDoRow.targs := of_decide_eq_true (by kernel_rfl)
theorem wrap : Try.f10.isWrapper Try.prog Rows.fnVersDoRow.wrapper Rows.fnVersDoRow.mainSum := by
  unfold Func.isWrapper; first | (rw [if_pos (by decide +kernel)]; kernel_rfl) | (rw [if_neg (by decide +kernel)]; exact ⟨rfl, rfl⟩)
theorem over : Rows.fnVersDoRow.holds Try.pinned (OpenSpec.ofChange Rows.fnVersDoSpec) :=
  OpenClaim.holds_of_wide 10 Try.f10 rfl rfl rfl rfl rfl rfl rfl ⟨rfl, rfl, rfl, rfl, rfl⟩ rfl rfl rfl rfl rfl named Try.func10 (Whole.facts_of closed)
    inst wrap (fun os started H enc _ => lifted os started H enc)

theorem proved : Rows.FnVersDoSaid := over
#print axioms proved
end Go.Proofs.Ytbhdgalkedegjaa.fnVersDo
