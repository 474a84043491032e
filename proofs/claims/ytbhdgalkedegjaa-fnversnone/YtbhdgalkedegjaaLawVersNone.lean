/- The law FnVersNone: for every code that is drawn from, what is done to no key changes no row and lets the time go on by one, as in the model: for every input the call returns true, and the argument reads afterwards as before. No conditions. -/
import Derived.Test.YtbhdgalkedegjaaRows
import Derived.Test.YtbhdgalkedegjaaWhole
import Derived.Test.YtbhdgalkedegjaaA1
import Derived.Test.YtbhdgalkedegjaaDv5
import Derived.Test.YtbhdgalkedegjaaS2s
import Derived.Test.YtbhdgalkedegjaaA4
import Derived.WalkKit
import Derived.ProofKit
import Derived.OpenShut
import Derived.ShutString
import Derived.ChangeOld
import Derived.Below
namespace Go.Proofs.Ytbhdgalkedegjaa.fnVersNone
open Go.ChangeShapes Go.WideShapes Go.ChangeAt Go.RowKit
open Go.ChangeMaps (open_string shut_string)
set_option linter.unusedVariables false

set_option maxRecDepth 100000 in
set_option maxHeartbeats 1000000 in
theorem walk (A0 : Option Addr) (n0 c0 : Nat) (w : World) (hc0 : n0 ≤ c0) (hm0 : c0 ≤ maxLen) (hr0 : RdB w w.heap.size A0 n0) :
    Calls Try.prog 17 #[.slice A0 n0 c0] w fun e w' => e = .returned (.bool true) ∧ Below w.heap.size w w' := by
  by_cases hn_n0 : (1048576 : Int) < (n0 : Int)
  · go_enter Try.func17, Try.ntmps17
    go_wp2
    go_ret
    exact ⟨rfl, Below.refl _ _⟩
  go_enter Try.func17, Try.ntmps17
  go_wp2_with fail
  refine (drawVersOk A0 n0 c0 w hc0 hm0 hr0).mono ?_
  rintro e w1 ⟨za, Va, la, rfl, a_n, hfa, hza, hla, hb1⟩
  obtain ⟨ba, na, ca, rfl⟩ := a_n.slice
  have hw_t1 := hb1
  have hs_t1 := hb1.size
  have hb_t2 := below_alloc (Below.refl _ w1) (.cells #[.int .i64 za, .slice ba na ca] 29)
  have Ba_t2 := blkA w1 #[.int .i64 za, .slice ba na ca] 29
  have hz_t2 : (w1.alloc (.cells #[.int .i64 za, .slice ba na ca] 29)).heap.size = w1.heap.size + 1 := World.size_alloc _ _
  have a_t3 := a_n.next hb_t2
  clear a_n
  have hw_t3 := below_next hw_t1 hb_t2
  have hs_t3 := hb_t2.size
  have hdl := doL_len za la [] (by omega)
  obtain ⟨RZ, RL, RB, HRR⟩ : ∃ RZ RL RB, Hid (doZ za la [] = RZ ∧ doL za la [] = RL ∧ doB za la [] = RB) := ⟨_, _, _, Lib.hid ⟨rfl, rfl, rfl⟩⟩
  rw [HRR.out.2.1] at hdl
  have qBa0 : (w1.alloc (.cells #[.int .i64 za, .slice ba na ca] 29)).cell? ⟨w1.heap.size, 0, none⟩ = some (.int .i64 za) := by rw [Ba_t2.cell]; rfl
  have qBa1 : (w1.alloc (.cells #[.int .i64 za, .slice ba na ca] 29)).cell? ⟨w1.heap.size, 1, none⟩ = some (.slice ba na ca) := by rw [Ba_t2.cell]; rfl
  go_wp2_with fail
  clear qBa0 qBa1
  refine (implVersDoO a_t3 (OwnG.nil (α := X) _ 0) hfa (fun r hr => by simp at hr) (by omega) (by simp)).mono ?_
  rw [HRR.out.1, HRR.out.2.1, HRR.out.2.2]
  rintro e w2 ⟨Vx, rfl, x_n, hb2⟩
  obtain ⟨bx, nx, cx, rfl⟩ := x_n.slice
  have a_t4 := a_t3.next hb2
  clear a_t3
  have Ba_t4 := Ba_t2.next hb2
  clear Ba_t2
  have hw_t4 := below_next hw_t3 hb2
  have hs_t4 := hb2.size
  have hb_t5 := below_alloc (Below.refl _ w2) (.cells #[.int .i64 RZ, .slice bx nx cx] 29)
  have Bx_t5 := blkA w2 #[.int .i64 RZ, .slice bx nx cx] 29
  have hz_t5 : (w2.alloc (.cells #[.int .i64 RZ, .slice bx nx cx] 29)).heap.size = w2.heap.size + 1 := World.size_alloc _ _
  have a_t6 := a_t4.next hb_t5
  clear a_t4
  have x_t6 := x_n.next hb_t5
  clear x_n
  have Ba_t6 := Ba_t4.next hb_t5
  clear Ba_t4
  have hw_t6 := below_next hw_t4 hb_t5
  have hs_t6 := hb_t5.size
  have qBa0 : (w2.alloc (.cells #[.int .i64 RZ, .slice bx nx cx] 29)).cell? ⟨w1.heap.size, 0, none⟩ = some (.int .i64 za) := by rw [Ba_t6.cell]; rfl
  have qBa1 : (w2.alloc (.cells #[.int .i64 RZ, .slice bx nx cx] 29)).cell? ⟨w1.heap.size, 1, none⟩ = some (.slice ba na ca) := by rw [Ba_t6.cell]; rfl
  have qBx0 : (w2.alloc (.cells #[.int .i64 RZ, .slice bx nx cx] 29)).cell? ⟨w2.heap.size, 0, none⟩ = some (.int .i64 RZ) := by rw [Bx_t5.cell]; rfl
  have qBx1 : (w2.alloc (.cells #[.int .i64 RZ, .slice bx nx cx] 29)).cell? ⟨w2.heap.size, 1, none⟩ = some (.slice bx nx cx) := by rw [Bx_t5.cell]; rfl
  go_wp2_with fail
  clear qBa0 qBa1 qBx0 qBx1
  refine (specVersDoO a_t6 (OwnG.nil (α := X) _ 0) hfa (fun r hr => by simp at hr) (by omega)).mono ?_
  rw [HRR.out.1, HRR.out.2.1, HRR.out.2.2]
  rintro e w3 ⟨Vu, rfl, u_n, hb3⟩
  obtain ⟨bu, nu, cu, rfl⟩ := u_n.slice
  have a_t7 := a_t6.next hb3
  clear a_t6
  have x_t7 := x_t6.next hb3
  clear x_t6
  have Ba_t7 := Ba_t6.next hb3
  clear Ba_t6
  have Bx_t7 := Bx_t5.next hb3
  clear Bx_t5
  have hw_t7 := below_next hw_t6 hb3
  have hs_t7 := hb3.size
  have hb_t8 := below_alloc (Below.refl _ w3) (.cells #[.int .i64 RZ, .slice bu nu cu] 29)
  have By_t8 := blkA w3 #[.int .i64 RZ, .slice bu nu cu] 29
  have hz_t8 : (w3.alloc (.cells #[.int .i64 RZ, .slice bu nu cu] 29)).heap.size = w3.heap.size + 1 := World.size_alloc _ _
  have a_t9 := a_t7.next hb_t8
  clear a_t7
  have x_t9 := x_t7.next hb_t8
  clear x_t7
  have u_t9 := u_n.next hb_t8
  clear u_n
  have Ba_t9 := Ba_t7.next hb_t8
  clear Ba_t7
  have Bx_t9 := Bx_t7.next hb_t8
  clear Bx_t7
  have hw_t9 := below_next hw_t7 hb_t8
  have hs_t9 := hb_t8.size
  cases hb : RB
  · have qBa0 : (w3.alloc (.cells #[.int .i64 RZ, .slice bu nu cu] 29)).cell? ⟨w1.heap.size, 0, none⟩ = some (.int .i64 za) := by rw [Ba_t9.cell]; rfl
    have qBa1 : (w3.alloc (.cells #[.int .i64 RZ, .slice bu nu cu] 29)).cell? ⟨w1.heap.size, 1, none⟩ = some (.slice ba na ca) := by rw [Ba_t9.cell]; rfl
    have qBx0 : (w3.alloc (.cells #[.int .i64 RZ, .slice bu nu cu] 29)).cell? ⟨w2.heap.size, 0, none⟩ = some (.int .i64 RZ) := by rw [Bx_t9.cell]; rfl
    have qBx1 : (w3.alloc (.cells #[.int .i64 RZ, .slice bu nu cu] 29)).cell? ⟨w2.heap.size, 1, none⟩ = some (.slice bx nx cx) := by rw [Bx_t9.cell]; rfl
    have qBy0 : (w3.alloc (.cells #[.int .i64 RZ, .slice bu nu cu] 29)).cell? ⟨w3.heap.size, 0, none⟩ = some (.int .i64 RZ) := by rw [By_t8.cell]; rfl
    have qBy1 : (w3.alloc (.cells #[.int .i64 RZ, .slice bu nu cu] 29)).cell? ⟨w3.heap.size, 1, none⟩ = some (.slice bu nu cu) := by rw [By_t8.cell]; rfl
    go_wp2_with fail
    clear qBa0 qBa1 qBx0 qBx1 qBy0 qBy1
    refine (implSameO x_t9 u_t9 (by omega) (by omega)).mono ?_
    rintro e w4 ⟨rfl, hb4⟩
    rw [sameB_refl]
    have a_t10 := a_t9.next hb4
    clear a_t9
    have x_t10 := x_t9.next hb4
    clear x_t9
    have u_t10 := u_t9.next hb4
    clear u_t9
    have Ba_t10 := Ba_t9.next hb4
    clear Ba_t9
    have Bx_t10 := Bx_t9.next hb4
    clear Bx_t9
    have By_t10 := By_t8.next hb4
    clear By_t8
    have hw_t10 := below_next hw_t9 hb4
    have hs_t10 := hb4.size
    have qBa0 : w4.cell? ⟨w1.heap.size, 0, none⟩ = some (.int .i64 za) := by rw [Ba_t10.cell]; rfl
    have qBa1 : w4.cell? ⟨w1.heap.size, 1, none⟩ = some (.slice ba na ca) := by rw [Ba_t10.cell]; rfl
    have qBx0 : w4.cell? ⟨w2.heap.size, 0, none⟩ = some (.int .i64 RZ) := by rw [Bx_t10.cell]; rfl
    have qBx1 : w4.cell? ⟨w2.heap.size, 1, none⟩ = some (.slice bx nx cx) := by rw [Bx_t10.cell]; rfl
    have qBy0 : w4.cell? ⟨w3.heap.size, 0, none⟩ = some (.int .i64 RZ) := by rw [By_t10.cell]; rfl
    have qBy1 : w4.cell? ⟨w3.heap.size, 1, none⟩ = some (.slice bu nu cu) := by rw [By_t10.cell]; rfl
    go_wp2_with fail
    clear qBa0 qBa1 qBx0 qBx1 qBy0 qBy1
    refine (implSameO x_t10 u_t10 (by omega) (by omega)).mono ?_
    rintro e w5 ⟨rfl, hb5⟩
    rw [sameB_refl]
    have a_t11 := a_t10.next hb5
    clear a_t10
    have x_t11 := x_t10.next hb5
    clear x_t10
    have u_t11 := u_t10.next hb5
    clear u_t10
    have Ba_t11 := Ba_t10.next hb5
    clear Ba_t10
    have Bx_t11 := Bx_t10.next hb5
    clear Bx_t10
    have By_t11 := By_t10.next hb5
    clear By_t10
    have hw_t11 := below_next hw_t10 hb5
    have hs_t11 := hb5.size
    have qBa0 : w5.cell? ⟨w1.heap.size, 0, none⟩ = some (.int .i64 za) := by rw [Ba_t11.cell]; rfl
    have qBa1 : w5.cell? ⟨w1.heap.size, 1, none⟩ = some (.slice ba na ca) := by rw [Ba_t11.cell]; rfl
    have qBx0 : w5.cell? ⟨w2.heap.size, 0, none⟩ = some (.int .i64 RZ) := by rw [Bx_t11.cell]; rfl
    have qBx1 : w5.cell? ⟨w2.heap.size, 1, none⟩ = some (.slice bx nx cx) := by rw [Bx_t11.cell]; rfl
    have qBy0 : w5.cell? ⟨w3.heap.size, 0, none⟩ = some (.int .i64 RZ) := by rw [By_t11.cell]; rfl
    have qBy1 : w5.cell? ⟨w3.heap.size, 1, none⟩ = some (.slice bu nu cu) := by rw [By_t11.cell]; rfl
    go_wp2
    go_ret
    exact ⟨rfl, hw_t11⟩
  · have HQ := Lib.hid (none_do (HRR.out.2.2.trans hb))
    have qBa0 : (w3.alloc (.cells #[.int .i64 RZ, .slice bu nu cu] 29)).cell? ⟨w1.heap.size, 0, none⟩ = some (.int .i64 za) := by rw [Ba_t9.cell]; rfl
    have qBa1 : (w3.alloc (.cells #[.int .i64 RZ, .slice bu nu cu] 29)).cell? ⟨w1.heap.size, 1, none⟩ = some (.slice ba na ca) := by rw [Ba_t9.cell]; rfl
    have qBx0 : (w3.alloc (.cells #[.int .i64 RZ, .slice bu nu cu] 29)).cell? ⟨w2.heap.size, 0, none⟩ = some (.int .i64 RZ) := by rw [Bx_t9.cell]; rfl
    have qBx1 : (w3.alloc (.cells #[.int .i64 RZ, .slice bu nu cu] 29)).cell? ⟨w2.heap.size, 1, none⟩ = some (.slice bx nx cx) := by rw [Bx_t9.cell]; rfl
    have qBy0 : (w3.alloc (.cells #[.int .i64 RZ, .slice bu nu cu] 29)).cell? ⟨w3.heap.size, 0, none⟩ = some (.int .i64 RZ) := by rw [By_t8.cell]; rfl
    have qBy1 : (w3.alloc (.cells #[.int .i64 RZ, .slice bu nu cu] 29)).cell? ⟨w3.heap.size, 1, none⟩ = some (.slice bu nu cu) := by rw [By_t8.cell]; rfl
    go_wp2_with fail
    clear qBa0 qBa1 qBx0 qBx1 qBy0 qBy1
    refine (implSameO x_t9 u_t9 (by omega) (by omega)).mono ?_
    rintro e w4 ⟨rfl, hb4⟩
    rw [sameB_refl]
    have a_t10 := a_t9.next hb4
    clear a_t9
    have x_t10 := x_t9.next hb4
    clear x_t9
    have u_t10 := u_t9.next hb4
    clear u_t9
    have Ba_t10 := Ba_t9.next hb4
    clear Ba_t9
    have Bx_t10 := Bx_t9.next hb4
    clear Bx_t9
    have By_t10 := By_t8.next hb4
    clear By_t8
    have hw_t10 := below_next hw_t9 hb4
    have hs_t10 := hb4.size
    have hRL : RL = la := HRR.out.2.1.symm.trans HQ.out.2.1
    have hRZ : RZ = za + 1 := HRR.out.1.symm.trans HQ.out.1
    subst hRL hRZ
    obtain ⟨hq1, hq2, HAT, hq3⟩ := HQ.out.2.2
    have hwz : IntKind.i64.wrap (za + 1) = za + 1 := IntWalk.i64_in _ (by omega)
    obtain ⟨hs_x1, hs_x2, hs_x3, hs_x4⟩ := x_t10.rd'
    clear hs_x2 hs_x3 hs_x4
    subst hs_x1
    obtain ⟨hs_a1, hs_a2, hs_a3, hs_a4⟩ := a_t10.rd'
    clear hs_a2 hs_a3 hs_a4
    subst hs_a1
    have hfx : FitVs RL := hfa
    have hal := versAt_length (za + 1) RL (za + 1)
    have hal2 := versAt_length za RL za
    obtain ⟨R1, HR1⟩ : ∃ R1, Hid (versAt (za + 1) RL (za + 1) = R1) := ⟨_, Lib.hid rfl⟩
    rw [HR1.out] at hal
    have HR2 : Hid (versAt za RL za = R1) := Lib.hid (HAT.symm.trans HR1.out)
    clear HAT
    have qBa0 : w4.cell? ⟨w1.heap.size, 0, none⟩ = some (.int .i64 za) := by rw [Ba_t10.cell]; rfl
    have qBa1 : w4.cell? ⟨w1.heap.size, 1, none⟩ = some (.slice ba RL.length ca) := by rw [Ba_t10.cell]; rfl
    have qBx0 : w4.cell? ⟨w2.heap.size, 0, none⟩ = some (.int .i64 (za + 1)) := by rw [Bx_t10.cell]; rfl
    have qBx1 : w4.cell? ⟨w2.heap.size, 1, none⟩ = some (.slice bx RL.length cx) := by rw [Bx_t10.cell]; rfl
    have qBy0 : w4.cell? ⟨w3.heap.size, 0, none⟩ = some (.int .i64 (za + 1)) := by rw [By_t10.cell]; rfl
    have qBy1 : w4.cell? ⟨w3.heap.size, 1, none⟩ = some (.slice bu nu cu) := by rw [By_t10.cell]; rfl
    go_wp2
    clear qBa0 qBa1 qBx0 qBx1 qBy0 qBy1
    have hb_t11 : Below w4.heap.size w4 w4.drew := (Below.refl _ _).drew
    have a_t12 := a_t10.next hb_t11
    clear a_t10
    have x_t12 := x_t10.next hb_t11
    clear x_t10
    have u_t12 := u_t10.next hb_t11
    clear u_t10
    have Ba_t12 := Ba_t10.next hb_t11
    clear Ba_t10
    have Bx_t12 := Bx_t10.next hb_t11
    clear Bx_t10
    have By_t12 := By_t10.next hb_t11
    clear By_t10
    have hw_t12 := below_next hw_t10 hb_t11
    have hs_t12 := hb_t11.size
    refine wp_region_held_drew (S := (fun W => W.cell? ⟨w1.heap.size, 0, none⟩ = some (.int .i64 za) ∧ W.cell? ⟨w1.heap.size, 1, none⟩ = some (.slice ba RL.length ca) ∧ W.cell? ⟨w2.heap.size, 0, none⟩ = some (.int .i64 (za + 1)) ∧ W.cell? ⟨w2.heap.size, 1, none⟩ = some (.slice bx RL.length cx) ∧ W.cell? ⟨w3.heap.size, 0, none⟩ = some (.int .i64 (za + 1)) ∧ W.cell? ⟨w3.heap.size, 1, none⟩ = some (.slice bu nu cu))) (by kernel_rfl) ?_ (fun hHeld => ?_)
    focus ((try dsimp only); (exact ⟨by rw [Ba_t12.cell]; rfl, by rw [Ba_t12.cell]; rfl, by rw [Bx_t12.cell]; rfl, by rw [Bx_t12.cell]; rfl, by rw [By_t12.cell]; rfl, by rw [By_t12.cell]; rfl⟩))
    (refine tkW (i := 0) (v := ?_) (by (simp only [ga, gc]; rfl)) (by kernel_rfl) (by (intro _ _ _ h; exact h)) (by rfl) ?_ (by assumption) ?_; rotate_left; (focus ((intro w hSw; (try dsimp only at hSw); go_simp) <;> with_reducible rfl)); (try simp only [Act.put, pa, pb, pc]))
    (refine tkW (i := 1) (v := ?_) (by (simp only [ga, gb, gc]; rfl)) (by kernel_rfl) (by (intro _ _ _ h; exact h)) (by rfl) ?_ (by assumption) ?_; rotate_left; (focus ((intro w hSw; (try dsimp only at hSw); go_simp) <;> with_reducible rfl)); (try simp only [Act.put, pa, pb, pc]))
    (refine tkW (i := 2) (v := ?_) (by (simp only [ga, gb, gc]; rfl)) (by kernel_rfl) (by (intro _ _ _ h; exact h)) (by rfl) ?_ (by assumption) ?_; rotate_left; (focus ((intro w hSw; (try dsimp only at hSw); go_simp) <;> with_reducible rfl)); (try simp only [Act.put, pa, pb, pc]))
    (refine tkW (i := 3) (v := ?_) (by (simp only [ga, gb, gc]; rfl)) (by kernel_rfl) (by (intro _ _ _ h; exact h)) (by rfl) ?_ (by assumption) ?_; rotate_left; (focus ((intro w hSw; (try dsimp only at hSw); go_simp) <;> with_reducible rfl)); (try simp only [Act.put, pa, pb, pc]))
    (refine tkW (i := 4) (v := ?_) (by (simp only [ga, gb, gc]; rfl)) (by kernel_rfl) (by (intro _ _ _ h; exact h)) (by rfl) ?_ (by assumption) ?_; rotate_left; (focus ((intro w hSw; (try dsimp only at hSw); go_simp) <;> with_reducible rfl)); (try simp only [Act.put, pa, pb, pc]))
    (refine tkW (i := 5) (v := ?_) (by (simp only [ga, gb, gc]; rfl)) (by kernel_rfl) (by (intro _ _ _ h; exact h)) (by rfl) ?_ (by assumption) ?_; rotate_left; (focus ((intro w hSw; (try dsimp only at hSw); go_simp) <;> with_reducible rfl)); (try simp only [Act.put, pa, pb, pc]))
    (refine tkW (i := 6) (v := ?_) (by (simp only [ga, gb, gc]; rfl)) (by kernel_rfl) (by (intro _ _ _ h; exact h)) (by rfl) ?_ (by assumption) ?_; rotate_left; (focus ((intro w hSw; (try dsimp only at hSw); go_simp) <;> with_reducible rfl)); (try simp only [Act.put, pa, pb, pc]))
    first
      | (refine tkW (i := 7) (v := ?_) (by (simp only [ga, gb, gc]; rfl)) (by kernel_rfl) (by (intro _ _ _ h; exact h)) (by rfl) ?_ (by assumption) ?_; rotate_left; (focus ((intro w hSw; (try dsimp only at hSw); go_simp) <;> with_reducible rfl)); (try simp only [Act.put, pa, pb, pc]))
      | (refine tkS (i := 7) (by (simp only [ga, gb, gc]; rfl)) (by kernel_rfl) (by (intro _ _ _ h; exact h)) (by rfl) (by assumption) ?_; (try simp only [Act.put, pa, pb, pc]))
    first
      | (refine tkW (i := 8) (v := ?_) (by (simp only [ga, gb, gc]; rfl)) (by kernel_rfl) (by (intro _ _ _ h; exact h)) (by rfl) ?_ (by assumption) ?_; rotate_left; (focus ((intro w hSw; (try dsimp only at hSw); go_simp) <;> with_reducible rfl)); (try simp only [Act.put, pa, pb, pc]))
      | (refine tkS (i := 8) (by (simp only [ga, gb, gc]; rfl)) (by kernel_rfl) (by (intro _ _ _ h; exact h)) (by rfl) (by assumption) ?_; (try simp only [Act.put, pa, pb, pc]))
    first
      | (refine tkW (i := 9) (v := ?_) (by (simp only [ga, gb, gc]; rfl)) (by kernel_rfl) (by (intro _ _ _ h; exact h)) (by rfl) ?_ (by assumption) ?_; rotate_left; (focus ((intro w hSw; (try dsimp only at hSw); go_simp) <;> with_reducible rfl)); (try simp only [Act.put, pa, pb, pc]))
      | (refine tkS (i := 9) (by (simp only [ga, gb, gc]; rfl)) (by kernel_rfl) (by (intro _ _ _ h; exact h)) (by rfl) (by assumption) ?_; (try simp only [Act.put, pa, pb, pc]))
    first
      | (refine tkW (i := 10) (v := ?_) (by (simp only [ga, gb, gc]; rfl)) (by kernel_rfl) (by (intro _ _ _ h; exact h)) (by rfl) ?_ (by assumption) ?_; rotate_left; (focus ((intro w hSw; (try dsimp only at hSw); go_simp) <;> with_reducible rfl)); (try simp only [Act.put, pa, pb, pc]))
      | (refine tkS (i := 10) (by (simp only [ga, gb, gc]; rfl)) (by kernel_rfl) (by (intro _ _ _ h; exact h)) (by rfl) (by assumption) ?_; (try simp only [Act.put, pa, pb, pc]))
    first
      | (refine tkW (i := 11) (v := ?_) (by (simp only [ga, gb, gc]; rfl)) (by kernel_rfl) (by (intro _ _ _ h; exact h)) (by rfl) ?_ (by assumption) ?_; rotate_left; (focus ((intro w hSw; (try dsimp only at hSw); go_simp) <;> with_reducible rfl)); (try simp only [Act.put, pa, pb, pc]))
      | (refine tkS (i := 11) (by (simp only [ga, gb, gc]; rfl)) (by kernel_rfl) (by (intro _ _ _ h; exact h)) (by rfl) (by assumption) ?_; (try simp only [Act.put, pa, pb, pc]))
    first
      | (refine tkW (i := 12) (v := ?_) (by (simp only [ga, gb, gc]; rfl)) (by kernel_rfl) (by (intro _ _ _ h; exact h)) (by rfl) ?_ (by assumption) ?_; rotate_left; (focus ((intro w hSw; (try dsimp only at hSw); go_simp) <;> with_reducible rfl)); (try simp only [Act.put, pa, pb, pc]))
      | (refine tkS (i := 12) (by (simp only [ga, gb, gc]; rfl)) (by kernel_rfl) (by (intro _ _ _ h; exact h)) (by rfl) (by assumption) ?_; (try simp only [Act.put, pa, pb, pc]))
    first
      | (refine tkW (i := 13) (v := ?_) (by (simp only [ga, gb, gc]; rfl)) (by kernel_rfl) (by (intro _ _ _ h; exact h)) (by rfl) ?_ (by assumption) ?_; rotate_left; (focus ((intro w hSw; (try dsimp only at hSw); go_simp) <;> with_reducible rfl)); (try simp only [Act.put, pa, pb, pc]))
      | (refine tkS (i := 13) (by (simp only [ga, gb, gc]; rfl)) (by kernel_rfl) (by (intro _ _ _ h; exact h)) (by rfl) (by assumption) ?_; (try simp only [Act.put, pa, pb, pc]))
    (refine tkW (i := 14) (v := ?_) (by (simp only [ga, gb, gc]; rfl)) (by kernel_rfl) (by (intro _ _ _ h; exact h)) (by rfl) ?_ (by assumption) ?_; rotate_left; (focus ((intro w hSw; (try dsimp only at hSw); go_simp) <;> with_reducible rfl)); (try simp only [Act.put, pa, pb, pc]))
    (refine tkW (i := 15) (v := ?_) (by (simp only [ga, gb, gc]; rfl)) (by kernel_rfl) (by (intro _ _ _ h; exact h)) (by rfl) ?_ (by assumption) ?_; rotate_left; (focus ((intro w hSw; (try dsimp only at hSw); go_simp) <;> with_reducible rfl)); (try simp only [Act.put, pa, pb, pc]))
    first
      | (refine tkW (i := 16) (v := ?_) (by (simp only [ga, gb, gc]; rfl)) (by kernel_rfl) (by (intro _ _ _ h; exact h)) (by rfl) ?_ (by assumption) ?_; rotate_left; (focus ((intro w hSw; (try dsimp only at hSw); go_simp) <;> with_reducible rfl)); (try simp only [Act.put, pa, pb, pc]))
      | (refine tkS (i := 16) (by (simp only [ga, gb, gc]; rfl)) (by kernel_rfl) (by (intro _ _ _ h; exact h)) (by rfl) (by assumption) ?_; (try simp only [Act.put, pa, pb, pc]))
    first
      | (refine tkW (i := 17) (v := ?_) (by (simp only [ga, gb, gc]; rfl)) (by kernel_rfl) (by (intro _ _ _ h; exact h)) (by rfl) ?_ (by assumption) ?_; rotate_left; (focus ((intro w hSw; (try dsimp only at hSw); go_simp) <;> with_reducible rfl)); (try simp only [Act.put, pa, pb, pc]))
      | (refine tkS (i := 17) (by (simp only [ga, gb, gc]; rfl)) (by kernel_rfl) (by (intro _ _ _ h; exact h)) (by rfl) (by assumption) ?_; (try simp only [Act.put, pa, pb, pc]))
    first
      | (refine tkW (i := 18) (v := ?_) (by (simp only [ga, gb, gc]; rfl)) (by kernel_rfl) (by (intro _ _ _ h; exact h)) (by rfl) ?_ (by assumption) ?_; rotate_left; (focus ((intro w hSw; (try dsimp only at hSw); go_simp) <;> with_reducible rfl)); (try simp only [Act.put, pa, pb, pc]))
      | (refine tkS (i := 18) (by (simp only [ga, gb, gc]; rfl)) (by kernel_rfl) (by (intro _ _ _ h; exact h)) (by rfl) (by assumption) ?_; (try simp only [Act.put, pa, pb, pc]))
    first
      | (refine tkW (i := 20) (v := ?_) (by (simp only [ga, gb, gc]; rfl)) (by kernel_rfl) (by (intro _ _ _ h; exact h)) (by rfl) ?_ (by assumption) ?_; rotate_left; (focus ((intro w hSw; (try dsimp only at hSw); go_simp) <;> with_reducible rfl)); (try simp only [Act.put, pa, pb, pc]))
      | (refine tkS (i := 20) (by (simp only [ga, gb, gc]; rfl)) (by kernel_rfl) (by (intro _ _ _ h; exact h)) (by rfl) (by assumption) ?_; (try simp only [Act.put, pa, pb, pc]))
    first
      | (refine tkW (i := 21) (v := ?_) (by (simp only [ga, gb, gc]; rfl)) (by kernel_rfl) (by (intro _ _ _ h; exact h)) (by rfl) ?_ (by assumption) ?_; rotate_left; (focus ((intro w hSw; (try dsimp only at hSw); go_simp) <;> with_reducible rfl)); (try simp only [Act.put, pa, pb, pc]))
      | (refine tkS (i := 21) (by (simp only [ga, gb, gc]; rfl)) (by kernel_rfl) (by (intro _ _ _ h; exact h)) (by rfl) (by assumption) ?_; (try simp only [Act.put, pa, pb, pc]))
    first
      | (refine tkW (i := 22) (v := ?_) (by (simp only [ga, gb, gc]; rfl)) (by kernel_rfl) (by (intro _ _ _ h; exact h)) (by rfl) ?_ (by assumption) ?_; rotate_left; (focus ((intro w hSw; (try dsimp only at hSw); go_simp) <;> with_reducible rfl)); (try simp only [Act.put, pa, pb, pc]))
      | (refine tkS (i := 22) (by (simp only [ga, gb, gc]; rfl)) (by kernel_rfl) (by (intro _ _ _ h; exact h)) (by rfl) (by assumption) ?_; (try simp only [Act.put, pa, pb, pc]))
    first
      | (refine tkS (i := 19) (by (simp only [ga, gb, gc]; rfl)) (by kernel_rfl) (by (intro _ _ _ h; exact h)) (by rfl) (by assumption) ?_; (try simp only [Act.put, pa, pb, pc]))
      | (refine wpAnyH_ready (rs := [19]) (by kernel_rfl) (by simp) ?_; refine AllReadyH.cons (by (simp only [ga, gb, gc]; rfl)) (fun K hK => ?_) AllReadyH.nil; go_simp; (go_at_call 26; refine (implVersAtO (za + 1) x_t12 hfx (by omega)).mono ?_; rw [HR1.out]; rintro e w5 ⟨Vr, rfl, r_n, hb5⟩; have a_t13 := a_t12.next hb5; clear a_t12; have x_t13 := x_t12.next hb5; clear x_t12; have u_t13 := u_t12.next hb5; clear u_t12; have Ba_t13 := Ba_t12.next hb5; clear Ba_t12; have Bx_t13 := Bx_t12.next hb5; clear Bx_t12; have By_t13 := By_t12.next hb5; clear By_t12; have hw_t13 := below_next hw_t12 hb5; have hs_t13 := hb5.size); go_wp2_with fail; refine hK.out _ _ ?_ (fun hHeld => ?_); (focus ((try dsimp only); (exact ⟨by rw [Ba_t13.cell]; rfl, by rw [Ba_t13.cell]; rfl, by rw [Bx_t13.cell]; rfl, by rw [Bx_t13.cell]; rfl, by rw [By_t13.cell]; rfl, by rw [By_t13.cell]; rfl⟩))); clear hK K; (try simp only [Act.put, pa, pb, pc]))
    first
      | (refine tkS (i := 23) (by (simp only [ga, gb, gc]; rfl)) (by kernel_rfl) (by (intro _ _ _ h; exact h)) (by rfl) (by assumption) ?_; (try simp only [Act.put, pa, pb, pc]))
      | (refine wpAnyH_ready (rs := [23]) (by kernel_rfl) (by simp) ?_; refine AllReadyH.cons (by (simp only [ga, gb, gc]; rfl)) (fun K hK => ?_) AllReadyH.nil; go_simp; (go_at_call 26; refine (implVersAtO za a_t13 hfa (by omega)).mono ?_; rw [HR2.out]; rintro e w6 ⟨Vs, rfl, s_n, hb6⟩; have a_t14 := a_t13.next hb6; clear a_t13; have x_t14 := x_t13.next hb6; clear x_t13; have u_t14 := u_t13.next hb6; clear u_t13; have r_t14 := r_n.next hb6; clear r_n; have Ba_t14 := Ba_t13.next hb6; clear Ba_t13; have Bx_t14 := Bx_t13.next hb6; clear Bx_t13; have By_t14 := By_t13.next hb6; clear By_t13; have hw_t14 := below_next hw_t13 hb6; have hs_t14 := hb6.size); go_wp2_with fail; refine hK.out _ _ ?_ (fun hHeld => ?_); (focus ((try dsimp only); (exact ⟨by rw [Ba_t14.cell]; rfl, by rw [Ba_t14.cell]; rfl, by rw [Bx_t14.cell]; rfl, by rw [Bx_t14.cell]; rfl, by rw [By_t14.cell]; rfl, by rw [By_t14.cell]; rfl⟩))); clear hK K; (try simp only [Act.put, pa, pb, pc]))
    first
      | (refine tkS (i := 24) (by (simp only [ga, gb, gc]; rfl)) (by kernel_rfl) (by (intro _ _ _ h; exact h)) (by rfl) (by assumption) ?_; (try simp only [Act.put, pa, pb, pc]))
      | (refine wpAnyH_ready (rs := [24]) (by kernel_rfl) (by simp) ?_; refine AllReadyH.cons (by (simp only [ga, gb, gc]; rfl)) (fun K hK => ?_) AllReadyH.nil; go_simp; (go_at_call 47; refine (wpO r_t14 s_n (by omega) (by omega)).mono ?_; rintro e w7 ⟨rfl, hb7⟩; rw [eqL_yes rfl]; have a_t15 := a_t14.next hb7; clear a_t14; have x_t15 := x_t14.next hb7; clear x_t14; have u_t15 := u_t14.next hb7; clear u_t14; have r_t15 := r_t14.next hb7; clear r_t14; have s_t15 := s_n.next hb7; clear s_n; have Ba_t15 := Ba_t14.next hb7; clear Ba_t14; have Bx_t15 := Bx_t14.next hb7; clear Bx_t14; have By_t15 := By_t14.next hb7; clear By_t14; have hw_t15 := below_next hw_t14 hb7; have hs_t15 := hb7.size); go_wp2_with fail; refine hK.out _ _ ?_ (fun hHeld => ?_); (focus ((try dsimp only); (exact ⟨by rw [Ba_t15.cell]; rfl, by rw [Ba_t15.cell]; rfl, by rw [Bx_t15.cell]; rfl, by rw [Bx_t15.cell]; rfl, by rw [By_t15.cell]; rfl, by rw [By_t15.cell]; rfl⟩))); clear hK K; (try simp only [Act.put, pa, pb, pc]))
    (refine tkW (i := 25) (v := ?_) (by (simp only [ga, gb, gc]; rfl)) (by kernel_rfl) (by (intro _ _ _ h; exact h)) (by rfl) ?_ (by assumption) ?_; rotate_left; (focus ((intro w hSw; (try dsimp only at hSw); go_simp) <;> with_reducible rfl)); (try simp only [Act.put, pa, pb, pc]))
    (refine tkW (i := 26) (v := ?_) (by (simp only [ga, gb, gc]; rfl)) (by kernel_rfl) (by (intro _ _ _ h; exact h)) (by rfl) ?_ (by assumption) ?_; rotate_left; (focus ((intro w hSw; (try dsimp only at hSw); go_simp) <;> with_reducible rfl)); (try simp only [Act.put, pa, pb, pc]))
    first
      | (refine tkW (i := 27) (v := ?_) (by (simp only [ga, gb, gc]; rfl)) (by kernel_rfl) (by (intro _ _ _ h; exact h)) (by rfl) ?_ (by assumption) ?_; rotate_left; (focus ((intro w hSw; (try dsimp only at hSw); go_simp) <;> with_reducible rfl)); (try simp only [Act.put, pa, pb, pc]))
      | (refine tkS (i := 27) (by (simp only [ga, gb, gc]; rfl)) (by kernel_rfl) (by (intro _ _ _ h; exact h)) (by rfl) (by assumption) ?_; (try simp only [Act.put, pa, pb, pc]))
    first
      | (refine tkW (i := 28) (v := ?_) (by (simp only [ga, gb, gc]; rfl)) (by kernel_rfl) (by (intro _ _ _ h; exact h)) (by rfl) ?_ (by assumption) ?_; rotate_left; (focus ((intro w hSw; (try dsimp only at hSw); go_simp) <;> with_reducible rfl)); (try simp only [Act.put, pa, pb, pc]))
      | (refine tkS (i := 28) (by (simp only [ga, gb, gc]; rfl)) (by kernel_rfl) (by (intro _ _ _ h; exact h)) (by rfl) (by assumption) ?_; (try simp only [Act.put, pa, pb, pc]))
    first
      | (refine tkW (i := 29) (v := ?_) (by (simp only [ga, gb, gc]; rfl)) (by kernel_rfl) (by (intro _ _ _ h; exact h)) (by rfl) ?_ (by assumption) ?_; rotate_left; (focus ((intro w hSw; (try dsimp only at hSw); go_simp) <;> with_reducible rfl)); (try simp only [Act.put, pa, pb, pc]))
      | (refine tkS (i := 29) (by (simp only [ga, gb, gc]; rfl)) (by kernel_rfl) (by (intro _ _ _ h; exact h)) (by rfl) (by assumption) ?_; (try simp only [Act.put, pa, pb, pc]))
    (refine tkW (i := 30) (v := ?_) (by (simp only [ga, gb, gc]; rfl)) (by kernel_rfl) (by (intro _ _ _ h; exact h)) (by rfl) ?_ (by assumption) ?_; rotate_left; (focus ((intro w hSw; (try dsimp only at hSw); go_simp) <;> with_reducible rfl)); (try simp only [Act.put, pa, pb, pc]))
    (refine tkW (i := 31) (v := ?_) (by (simp only [ga, gb, gc]; rfl)) (by kernel_rfl) (by (intro _ _ _ h; exact h)) (by rfl) ?_ (by assumption) ?_; rotate_left; (focus ((intro w hSw; (try dsimp only at hSw); go_simp) <;> with_reducible rfl)); (try simp only [Act.put, pa, pb, pc]))
    refine wpAnyH_done (by kernel_rfl) ?_ _
    have hd40 : decide (za < 40) = true := decide_eq_true hq3
    have qBa0 : w7.cell? ⟨w1.heap.size, 0, none⟩ = some (.int .i64 za) := by rw [Ba_t15.cell]; rfl
    have qBa1 : w7.cell? ⟨w1.heap.size, 1, none⟩ = some (.slice ba RL.length ca) := by rw [Ba_t15.cell]; rfl
    have qBx0 : w7.cell? ⟨w2.heap.size, 0, none⟩ = some (.int .i64 (za + 1)) := by rw [Bx_t15.cell]; rfl
    have qBx1 : w7.cell? ⟨w2.heap.size, 1, none⟩ = some (.slice bx RL.length cx) := by rw [Bx_t15.cell]; rfl
    have qBy0 : w7.cell? ⟨w3.heap.size, 0, none⟩ = some (.int .i64 (za + 1)) := by rw [By_t15.cell]; rfl
    have qBy1 : w7.cell? ⟨w3.heap.size, 1, none⟩ = some (.slice bu nu cu) := by rw [By_t15.cell]; rfl
    go_wp2
    go_ret
    exact ⟨rfl, hw_t15⟩

set_option maxRecDepth 100000 in
theorem lifted (os : Os) (started : os.Started) (H : Type) (enc : TypeId × Value → H) :
    ReturnsInHanded {} Try.checked os 17 .any (Rows.fnVersNoneSpec.pre6 enc Try.prog Try.f17 Rows.fnVersNoneRow.domain false) (Rows.fnVersNoneSpec.post enc Try.prog Try.f17 false true false false) := by
  refine returnsInHanded_of_change (C := Try.checked) Whole.own started (by kernel_rfl) Try.func17
    (ChangeSpec.witness6 (enc := enc) (C := Try.checked) false ⟨#[], #[.slice none 0 0], []⟩ 8 (by kernel_rfl) (by kernel_rfl) (by kernel_rfl) (by kernel_rfl)) ?_
  intro W base args ds gs before hval0 hW hcnd _
  have hval : ∀ (j : Nat) t v, Try.f17.params[j]? = some t → args[j]? = some v → Value.okWide Try.prog W .any base t v := hval0
  have hW' := hW
  obtain ⟨p, q, hA0, hV, rfl, hfz, hnd⟩ := hW
  have hA : DataW.TrodAll enc Try.prog W 0 (fun _ => true) true Try.f17.params.toList args.toList ds p := hA0
  rw [Try.params17] at hA hval
  obtain ⟨v0, vs0, d0, ds0, p0, q0, hargs, rfl, rfl, h0, r0⟩ := trodAll_cons hA
  obtain ⟨rfl, rfl, rfl⟩ := trodAll_nil r0
  obtain rfl : args = #[v0] := by cases args; simp_all
  obtain ⟨rfl, rfl⟩ := trodVars_none hV
  have k0 := h0
  have lt0 : ∀ x ∈ p0, x.block < W.heap.size := by obtain ⟨m, hm⟩ := k0; exact DataW.trod_lt m _ _ _ hm
  obtain ⟨A0, n0, c0, rfl, hc0, hm0, hr0⟩ := openBytes (hval 0 54 v0 rfl rfl) h0
  clear hA0 hval0
  refine (walk A0 n0 c0 W hc0 hm0 hr0).mono fun e W' ⟨he, bel⟩ => ?_
  subst he
  exact ⟨_, rfl, _, _, _, [], _, [], hW', trodAll_mk1 (shut_bool Try.underlying4 _), (trodAll_cons_mk (Below.trod Whole.laidOut (by kernel_rfl) (of_decide_eq_true (by kernel_rfl)) k0 bel lt0) trodAll_mk0), rfl, bel.frame _, fun h => by cases h⟩

theorem named : Try.prog.funcNamed Rows.fnVersNoneRow.func = some 17 := by kernel_rfl
theorem closed : Whole.lawFacts Try.prog 17 Try.f17 Rows.fnVersNoneSpec Rows.fnVersNoneRow = true := by kernel_rfl
theorem inst : Try.f17.isInstance Try.prog Rows.fnVersNoneRow.origin Rows.fnVersNoneRow.targs := of_decide_eq_true (by kernel_rfl)
theorem wrap : Try.f17.isWrapper Try.prog Rows.fnVersNoneRow.wrapper Rows.fnVersNoneRow.mainSum := by
  unfold Func.isWrapper; first | (rw [if_pos (by decide +kernel)]; kernel_rfl) | (rw [if_neg (by decide +kernel)]; exact ⟨rfl, rfl⟩)
theorem over : Rows.fnVersNoneRow.holds Try.pinned (OpenSpec.ofChange Rows.fnVersNoneSpec) :=
  OpenClaim.holds_of_wide 17 Try.f17 rfl rfl rfl rfl rfl rfl rfl ⟨rfl, rfl, rfl, rfl, rfl⟩ rfl rfl rfl rfl rfl named Try.func17 (Whole.facts_of closed)
    inst wrap (fun os started H enc _ => lifted os started H enc)

theorem proved : Rows.FnVersNoneSaid := over
#print axioms proved
end Go.Proofs.Ytbhdgalkedegjaa.fnVersNone
