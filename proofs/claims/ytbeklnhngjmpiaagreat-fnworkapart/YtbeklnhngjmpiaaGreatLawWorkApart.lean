/- The law FnWorkApart: for every two codes that are drawn from, two transactions of one time that write no key in common may be committed in either order: time and rows are the same: for all inputs the call returns true, and the arguments read afterwards as before. No conditions. -/
import Derived.Test.YtbeklnhngjmpiaaGreatRows
import Derived.Test.YtbeklnhngjmpiaaGreatWhole
import Derived.Test.YtbeklnhngjmpiaaGreatA1
import Derived.Test.YtbeklnhngjmpiaaGreatA4
import Derived.Test.YtbeklnhngjmpiaaGreatDw3
import Derived.Test.YtbeklnhngjmpiaaGreatW3r
import Derived.Test.YtbeklnhngjmpiaaGreatX3h
import Derived.WalkKit
import Derived.ProofKit
import Derived.OpenShut
import Derived.ShutString
import Derived.ChangeOld
import Derived.Below
namespace Go.Proofs.YtbeklnhngjmpiaaGreat.fnWorkApart
open Go.ChangeShapes Go.WideShapes Go.ChangeAt Go.RowKit
open Go.ChangeMaps (open_string shut_string)
set_option linter.unusedVariables false

set_option maxRecDepth 100000 in
set_option maxHeartbeats 1000000 in
theorem walk (A0 : Option Addr) (n0 c0 : Nat) (A1 : Option Addr) (n1 c1 : Nat) (w : World) (hc0 : n0 ≤ c0) (hm0 : c0 ≤ maxLen) (hr0 : RdB w w.heap.size A0 n0) (hc1 : n1 ≤ c1) (hm1 : c1 ≤ maxLen) (hr1 : RdB w w.heap.size A1 n1) :
  Calls Tryz.prog 10 #[.slice A0 n0 c0, .slice A1 n1 c1] w fun e w' => e = .returned (.bool true) ∧ Below w.heap.size w w' := by
 by_cases hn_n0 : (1048576 : Int) < (n0 : Int)
 ·
  go_enter Tryz.func10, Tryz.ntmps10
  go_wp2
  go_ret
  exact ⟨rfl, Below.refl _ _⟩
 by_cases hn_n1 : (1048576 : Int) < (n1 : Int)
 ·
  go_enter Tryz.func10, Tryz.ntmps10
  go_wp2
  go_ret
  exact ⟨rfl, Below.refl _ _⟩
 go_enter Tryz.func10, Tryz.ntmps10
 go_wp2_with fail
 refine (drawWorkEnd A0 n0 c0 w hc0 hm0 hr0).mono ?_
 rintro e w1 ⟨za, Va, la, ab, Vb, lb, rfl, a_n, hfa, hza, hla, b_n, hfb, hab, hlb, hb1⟩
 obtain ⟨ada, ca, rfl, ry1_a, ry2_a, ry3_a⟩ := a_n.read
 clear ry1_a ry2_a ry3_a
 obtain ⟨adb, cb, rfl, ry1_b, ry2_b, ry3_b⟩ := b_n.read
 clear ry1_b ry2_b ry3_b
 have hw_t1 := hb1
 have hs_t1 := hb1.size
 have hb_t3 := below_alloc (Below.refl _ w1) (.cells #[.int .i64 za, .slice ada la.length ca] 34)
 have Ba_t3 := blkA w1 #[.int .i64 za, .slice ada la.length ca] 34
 have hz_t3 : (w1.alloc (.cells #[.int .i64 za, .slice ada la.length ca] 34)).heap.size = w1.heap.size + 1 := World.size_alloc _ _
 have a_t4 := a_n.next hb_t3
 clear a_n
 have b_t4 := b_n.next hb_t3
 clear b_n
 have hw_t4 := below_next hw_t1 hb_t3
 have hs_t4 := hb_t3.size
 have hb_t6 := below_alloc (Below.refl _ (w1.alloc (.cells #[.int .i64 za, .slice ada la.length ca] 34))) (.cells #[.int .i64 ab, .slice adb lb.length cb] 38)
 have Bb_t6 := blkA (w1.alloc (.cells #[.int .i64 za, .slice ada la.length ca] 34)) #[.int .i64 ab, .slice adb lb.length cb] 38
 simp only [World.size_alloc] at Bb_t6
 have hz_t6 : ((w1.alloc (.cells #[.int .i64 za, .slice ada la.length ca] 34)).alloc (.cells #[.int .i64 ab, .slice adb lb.length cb] 38)).heap.size = (w1.alloc (.cells #[.int .i64 za, .slice ada la.length ca] 34)).heap.size + 1 := World.size_alloc _ _
 have a_t7 := a_t4.next hb_t6
 clear a_t4
 have b_t7 := b_t4.next hb_t6
 clear b_t4
 have Ba_t7 := Ba_t3.next hb_t6
 clear Ba_t3
 have hw_t7 := below_next hw_t4 hb_t6
 have hs_t7 := hb_t6.size
 have hel := endL_length za la ab lb (by omega)
 obtain ⟨RZ, RL, RC, HRR⟩ : ∃ RZ RL RC, Hid (endZ za la ab lb = RZ ∧ endL za la ab lb = RL ∧ endC za la ab lb = RC) := ⟨_, _, _, Lib.hid ⟨rfl, rfl, rfl⟩⟩
 rw [HRR.out.2.1] at hel
 have qBa0 : ((w1.alloc (.cells #[.int .i64 za, .slice ada la.length ca] 34)).alloc (.cells #[.int .i64 ab, .slice adb lb.length cb] 38)).cell? ⟨w1.heap.size, 0, none⟩ = some (.int .i64 za) := by rw [Ba_t7.cell]; rfl
 have qBa1 : ((w1.alloc (.cells #[.int .i64 za, .slice ada la.length ca] 34)).alloc (.cells #[.int .i64 ab, .slice adb lb.length cb] 38)).cell? ⟨w1.heap.size, 1, none⟩ = some (.slice ada la.length ca) := by rw [Ba_t7.cell]; rfl
 have qBb0 : ((w1.alloc (.cells #[.int .i64 za, .slice ada la.length ca] 34)).alloc (.cells #[.int .i64 ab, .slice adb lb.length cb] 38)).cell? ⟨w1.heap.size + 1, 0, none⟩ = some (.int .i64 ab) := by rw [Bb_t6.cell]; rfl
 have qBb1 : ((w1.alloc (.cells #[.int .i64 za, .slice ada la.length ca] 34)).alloc (.cells #[.int .i64 ab, .slice adb lb.length cb] 38)).cell? ⟨w1.heap.size + 1, 1, none⟩ = some (.slice adb lb.length cb) := by rw [Bb_t6.cell]; rfl
 go_wp2_with fail
 clear qBa0 qBa1 qBb0 qBb1
 refine (implWorkEndO a_t7 b_t7 hfa hfb (by omega) (by omega)).mono ?_
 rw [HRR.out.1, HRR.out.2.1, HRR.out.2.2]
 rintro e w2 ⟨Vx, rfl, x_n, hb2⟩
 obtain ⟨adx, cx, rfl, ry1_x, ry2_x, ry3_x⟩ := x_n.read
 clear ry1_x ry2_x ry3_x
 have a_t9 := a_t7.next hb2
 clear a_t7
 have b_t9 := b_t7.next hb2
 clear b_t7
 have Ba_t9 := Ba_t7.next hb2
 clear Ba_t7
 have Bb_t9 := Bb_t6.next hb2
 clear Bb_t6
 have hw_t9 := below_next hw_t7 hb2
 have hs_t9 := hb2.size
 have hb_t11 := below_alloc (Below.refl _ w2) (.cells #[.int .i64 RZ, .slice adx RL.length cx] 34)
 have Bx_t11 := blkA w2 #[.int .i64 RZ, .slice adx RL.length cx] 34
 have hz_t11 : (w2.alloc (.cells #[.int .i64 RZ, .slice adx RL.length cx] 34)).heap.size = w2.heap.size + 1 := World.size_alloc _ _
 have a_t12 := a_t9.next hb_t11
 clear a_t9
 have b_t12 := b_t9.next hb_t11
 clear b_t9
 have x_t12 := x_n.next hb_t11
 clear x_n
 have Ba_t12 := Ba_t9.next hb_t11
 clear Ba_t9
 have Bb_t12 := Bb_t9.next hb_t11
 clear Bb_t9
 have hw_t12 := below_next hw_t9 hb_t11
 have hs_t12 := hb_t11.size
 have qBa0 : (w2.alloc (.cells #[.int .i64 RZ, .slice adx RL.length cx] 34)).cell? ⟨w1.heap.size, 0, none⟩ = some (.int .i64 za) := by rw [Ba_t12.cell]; rfl
 have qBa1 : (w2.alloc (.cells #[.int .i64 RZ, .slice adx RL.length cx] 34)).cell? ⟨w1.heap.size, 1, none⟩ = some (.slice ada la.length ca) := by rw [Ba_t12.cell]; rfl
 have qBb0 : (w2.alloc (.cells #[.int .i64 RZ, .slice adx RL.length cx] 34)).cell? ⟨w1.heap.size + 1, 0, none⟩ = some (.int .i64 ab) := by rw [Bb_t12.cell]; rfl
 have qBb1 : (w2.alloc (.cells #[.int .i64 RZ, .slice adx RL.length cx] 34)).cell? ⟨w1.heap.size + 1, 1, none⟩ = some (.slice adb lb.length cb) := by rw [Bb_t12.cell]; rfl
 have qBx0 : (w2.alloc (.cells #[.int .i64 RZ, .slice adx RL.length cx] 34)).cell? ⟨w2.heap.size, 0, none⟩ = some (.int .i64 RZ) := by rw [Bx_t11.cell]; rfl
 have qBx1 : (w2.alloc (.cells #[.int .i64 RZ, .slice adx RL.length cx] 34)).cell? ⟨w2.heap.size, 1, none⟩ = some (.slice adx RL.length cx) := by rw [Bx_t11.cell]; rfl
 go_wp2_with fail
 clear qBa0 qBa1 qBb0 qBb1 qBx0 qBx1
 refine (specWorkEndO a_t12 b_t12 hfa hfb (by omega) (by omega)).mono ?_
 rw [HRR.out.1, HRR.out.2.1, HRR.out.2.2]
 rintro e w3 ⟨Vy, rfl, y_n, hb3⟩
 obtain ⟨ady, cy, rfl, ry1_y, ry2_y, ry3_y⟩ := y_n.read
 clear ry1_y ry2_y ry3_y
 have a_t14 := a_t12.next hb3
 clear a_t12
 have b_t14 := b_t12.next hb3
 clear b_t12
 have x_t14 := x_t12.next hb3
 clear x_t12
 have Ba_t14 := Ba_t12.next hb3
 clear Ba_t12
 have Bb_t14 := Bb_t12.next hb3
 clear Bb_t12
 have Bx_t14 := Bx_t11.next hb3
 clear Bx_t11
 have hw_t14 := below_next hw_t12 hb3
 have hs_t14 := hb3.size
 have hb_t16 := below_alloc (Below.refl _ w3) (.cells #[.int .i64 RZ, .slice ady RL.length cy] 34)
 have By_t16 := blkA w3 #[.int .i64 RZ, .slice ady RL.length cy] 34
 have hz_t16 : (w3.alloc (.cells #[.int .i64 RZ, .slice ady RL.length cy] 34)).heap.size = w3.heap.size + 1 := World.size_alloc _ _
 have a_t17 := a_t14.next hb_t16
 clear a_t14
 have b_t17 := b_t14.next hb_t16
 clear b_t14
 have x_t17 := x_t14.next hb_t16
 clear x_t14
 have y_t17 := y_n.next hb_t16
 clear y_n
 have Ba_t17 := Ba_t14.next hb_t16
 clear Ba_t14
 have Bb_t17 := Bb_t14.next hb_t16
 clear Bb_t14
 have Bx_t17 := Bx_t14.next hb_t16
 clear Bx_t14
 have hw_t17 := below_next hw_t14 hb_t16
 have hs_t17 := hb_t16.size
 clear y_t17
 have hrc : (RC != RC) = false := by simp
 have hrd : (RC == RC) = true := by simp
 by_cases hc : RC = 0
 ·
  subst hc
  have HC0 : Hid (endC za la ab lb = 0) := Lib.hid HRR.out.2.2
  have HE1 : Hid (endZ za la ab lb = RZ) := Lib.hid HRR.out.1
  have HE2 : Hid (endL za la ab lb = RL) := Lib.hid HRR.out.2.1
  have hfR : FitVs RL := by rw [← HE2.out]; exact fit_end HC0.out hfa hfb
  have hRl := fine_len HC0.out
  rw [HE1.out, HE2.out] at hRl
  obtain ⟨hRl, hRz0, hRz1⟩ := hRl
  clear HRR
  clear hrc hrd
  have qBa0 : (w3.alloc (.cells #[.int .i64 RZ, .slice ady RL.length cy] 34)).cell? ⟨w1.heap.size, 0, none⟩ = some (.int .i64 za) := by rw [Ba_t17.cell]; rfl
  have qBa1 : (w3.alloc (.cells #[.int .i64 RZ, .slice ady RL.length cy] 34)).cell? ⟨w1.heap.size, 1, none⟩ = some (.slice ada la.length ca) := by rw [Ba_t17.cell]; rfl
  have qBb0 : (w3.alloc (.cells #[.int .i64 RZ, .slice ady RL.length cy] 34)).cell? ⟨w1.heap.size + 1, 0, none⟩ = some (.int .i64 ab) := by rw [Bb_t17.cell]; rfl
  have qBb1 : (w3.alloc (.cells #[.int .i64 RZ, .slice ady RL.length cy] 34)).cell? ⟨w1.heap.size + 1, 1, none⟩ = some (.slice adb lb.length cb) := by rw [Bb_t17.cell]; rfl
  have qBx0 : (w3.alloc (.cells #[.int .i64 RZ, .slice ady RL.length cy] 34)).cell? ⟨w2.heap.size, 0, none⟩ = some (.int .i64 RZ) := by rw [Bx_t17.cell]; rfl
  have qBx1 : (w3.alloc (.cells #[.int .i64 RZ, .slice ady RL.length cy] 34)).cell? ⟨w2.heap.size, 1, none⟩ = some (.slice adx RL.length cx) := by rw [Bx_t17.cell]; rfl
  go_wp2_with fail
  clear qBa0 qBa1 qBb0 qBb1 qBx0 qBx1
  refine (drawVersDo A1 n1 c1 _ hc1 hm1 (hr1.next hw_t17)).mono ?_
  rintro e w4 ⟨zm, Vm, lm, Um, xm, rfl, m_n, hfm, hzm, hlm, um_n, hfxm, hlxm, hb4⟩
  obtain ⟨adm, cm, rfl, ry1_m, ry2_m, ry3_m⟩ := m_n.read
  clear ry1_m ry2_m ry3_m
  obtain ⟨adum, cum, rfl, ry1_um, ry2_um, ry3_um⟩ := um_n.read
  clear ry1_um ry2_um ry3_um
  have a_t19 := a_t17.next hb4
  clear a_t17
  have b_t19 := b_t17.next hb4
  clear b_t17
  have x_t19 := x_t17.next hb4
  clear x_t17
  have Ba_t19 := Ba_t17.next hb4
  clear Ba_t17
  have Bb_t19 := Bb_t17.next hb4
  clear Bb_t17
  have Bx_t19 := Bx_t17.next hb4
  clear Bx_t17
  have hw_t19 := below_next hw_t17 hb4
  have hs_t19 := hb4.size
  have hb_t21 := below_alloc (Below.refl _ w4) (.cells #[.int .i64 zm, .slice adm lm.length cm] 34)
  have Bm_t21 := blkA w4 #[.int .i64 zm, .slice adm lm.length cm] 34
  have hz_t21 : (w4.alloc (.cells #[.int .i64 zm, .slice adm lm.length cm] 34)).heap.size = w4.heap.size + 1 := World.size_alloc _ _
  have a_t22 := a_t19.next hb_t21
  clear a_t19
  have b_t22 := b_t19.next hb_t21
  clear b_t19
  have x_t22 := x_t19.next hb_t21
  clear x_t19
  have m_t22 := m_n.next hb_t21
  clear m_n
  have um_t22 := um_n.next hb_t21
  clear um_n
  have Ba_t22 := Ba_t19.next hb_t21
  clear Ba_t19
  have Bb_t22 := Bb_t19.next hb_t21
  clear Bb_t19
  have Bx_t22 := Bx_t19.next hb_t21
  clear Bx_t19
  have hw_t22 := below_next hw_t19 hb_t21
  have hs_t22 := hb_t21.size
  clear m_t22
  have rBa0 : (w4.alloc (.cells #[.int .i64 zm, .slice adm lm.length cm] 34)).cell? ⟨w1.heap.size, 0, none⟩ = some (.int .i64 za) := by rw [Ba_t22.cell]; rfl
  have rBa1 : (w4.alloc (.cells #[.int .i64 zm, .slice adm lm.length cm] 34)).cell? ⟨w1.heap.size, 1, none⟩ = some (.slice ada la.length ca) := by rw [Ba_t22.cell]; rfl
  have rBb0 : (w4.alloc (.cells #[.int .i64 zm, .slice adm lm.length cm] 34)).cell? ⟨w1.heap.size + 1, 0, none⟩ = some (.int .i64 ab) := by rw [Bb_t22.cell]; rfl
  have rBb1 : (w4.alloc (.cells #[.int .i64 zm, .slice adm lm.length cm] 34)).cell? ⟨w1.heap.size + 1, 1, none⟩ = some (.slice adb lb.length cb) := by rw [Bb_t22.cell]; rfl
  have rBx0 : (w4.alloc (.cells #[.int .i64 zm, .slice adm lm.length cm] 34)).cell? ⟨w2.heap.size, 0, none⟩ = some (.int .i64 RZ) := by rw [Bx_t22.cell]; rfl
  have rBx1 : (w4.alloc (.cells #[.int .i64 zm, .slice adm lm.length cm] 34)).cell? ⟨w2.heap.size, 1, none⟩ = some (.slice adx RL.length cx) := by rw [Bx_t22.cell]; rfl
  have hb_t24 := below_alloc (Below.refl _ (w4.alloc (.cells #[.int .i64 zm, .slice adm lm.length cm] 34))) (.cells #[.int .i64 ab, .slice adum xm.length cum] 38)
  have Bu_t24 := blkA (w4.alloc (.cells #[.int .i64 zm, .slice adm lm.length cm] 34)) #[.int .i64 ab, .slice adum xm.length cum] 38
  simp only [World.size_alloc] at Bu_t24
  have hz_t24 : ((w4.alloc (.cells #[.int .i64 zm, .slice adm lm.length cm] 34)).alloc (.cells #[.int .i64 ab, .slice adum xm.length cum] 38)).heap.size = (w4.alloc (.cells #[.int .i64 zm, .slice adm lm.length cm] 34)).heap.size + 1 := World.size_alloc _ _
  have a_t25 := a_t22.next hb_t24
  clear a_t22
  have b_t25 := b_t22.next hb_t24
  clear b_t22
  have x_t25 := x_t22.next hb_t24
  clear x_t22
  have um_t25 := um_t22.next hb_t24
  clear um_t22
  have Ba_t25 := Ba_t22.next hb_t24
  clear Ba_t22
  have Bb_t25 := Bb_t22.next hb_t24
  clear Bb_t22
  have Bx_t25 := Bx_t22.next hb_t24
  clear Bx_t22
  have hw_t25 := below_next hw_t22 hb_t24
  have hs_t25 := hb_t24.size
  have qBa0 : ((w4.alloc (.cells #[.int .i64 zm, .slice adm lm.length cm] 34)).alloc (.cells #[.int .i64 ab, .slice adum xm.length cum] 38)).cell? ⟨w1.heap.size, 0, none⟩ = some (.int .i64 za) := by rw [Ba_t25.cell]; rfl
  have qBa1 : ((w4.alloc (.cells #[.int .i64 zm, .slice adm lm.length cm] 34)).alloc (.cells #[.int .i64 ab, .slice adum xm.length cum] 38)).cell? ⟨w1.heap.size, 1, none⟩ = some (.slice ada la.length ca) := by rw [Ba_t25.cell]; rfl
  have qBb0 : ((w4.alloc (.cells #[.int .i64 zm, .slice adm lm.length cm] 34)).alloc (.cells #[.int .i64 ab, .slice adum xm.length cum] 38)).cell? ⟨w1.heap.size + 1, 0, none⟩ = some (.int .i64 ab) := by rw [Bb_t25.cell]; rfl
  have qBb1 : ((w4.alloc (.cells #[.int .i64 zm, .slice adm lm.length cm] 34)).alloc (.cells #[.int .i64 ab, .slice adum xm.length cum] 38)).cell? ⟨w1.heap.size + 1, 1, none⟩ = some (.slice adb lb.length cb) := by rw [Bb_t25.cell]; rfl
  have qBx0 : ((w4.alloc (.cells #[.int .i64 zm, .slice adm lm.length cm] 34)).alloc (.cells #[.int .i64 ab, .slice adum xm.length cum] 38)).cell? ⟨w2.heap.size, 0, none⟩ = some (.int .i64 RZ) := by rw [Bx_t25.cell]; rfl
  have qBx1 : ((w4.alloc (.cells #[.int .i64 zm, .slice adm lm.length cm] 34)).alloc (.cells #[.int .i64 ab, .slice adum xm.length cum] 38)).cell? ⟨w2.heap.size, 1, none⟩ = some (.slice adx RL.length cx) := by rw [Bx_t25.cell]; rfl
  have qBu0 : ((w4.alloc (.cells #[.int .i64 zm, .slice adm lm.length cm] 34)).alloc (.cells #[.int .i64 ab, .slice adum xm.length cum] 38)).cell? ⟨w4.heap.size + 1, 0, none⟩ = some (.int .i64 ab) := by rw [Bu_t24.cell]; rfl
  have qBu1 : ((w4.alloc (.cells #[.int .i64 zm, .slice adm lm.length cm] 34)).alloc (.cells #[.int .i64 ab, .slice adum xm.length cum] 38)).cell? ⟨w4.heap.size + 1, 1, none⟩ = some (.slice adum xm.length cum) := by rw [Bu_t24.cell]; rfl
  go_wp2
  clear qBa0 qBa1 qBb0 qBb1 qBx0 qBx1 qBu0 qBu1
  go_loopw [14] (fun i W => ∃ k : Nat, k ≤ xm.length ∧ i = .int .i64 k ∧ Hid (∀ u ∈ xm.take k, ∀ y ∈ lb, u.k ≠ y.k) ∧ Below ((w4.alloc (.cells #[.int .i64 zm, .slice adm lm.length cm] 34)).alloc (.cells #[.int .i64 ab, .slice adum xm.length cum] 38)).heap.size ((w4.alloc (.cells #[.int .i64 zm, .slice adm lm.length cm] 34)).alloc (.cells #[.int .i64 ab, .slice adum xm.length cum] 38)) W) (fun i _ => xm.length - (intOf i).toNat)
  case atStart => exact ⟨0, Nat.zero_le _, rfl, Lib.hid (fun u hu => by simp at hu), Below.refl _ _⟩
  case round =>
   obtain ⟨k, hk, rfl, HK, hbl⟩ := hrel
   have lq0 := hbl
   have a_t27 := a_t25.next hbl
   clear a_t25
   have b_t27 := b_t25.next hbl
   clear b_t25
   have x_t27 := x_t25.next hbl
   clear x_t25
   have um_t27 := um_t25.next hbl
   clear um_t25
   have Ba_t27 := Ba_t25.next hbl
   clear Ba_t25
   have Bb_t27 := Bb_t25.next hbl
   clear Bb_t25
   have Bx_t27 := Bx_t25.next hbl
   clear Bx_t25
   have Bu_t27 := Bu_t24.next hbl
   clear Bu_t24
   have hw_t27 := below_next hw_t25 hbl
   have hs_t27 := hbl.size
   by_cases hlt : k < xm.length
   ·
    obtain ⟨ebE, eoE, rfl, hqE, _⟩ := (um_t27.rd'.2.2.2).atX hlt
    clear hqE
    have hkI := lenI _ _ hlt
    have qBa0 : wr.cell? ⟨w1.heap.size, 0, none⟩ = some (.int .i64 za) := by rw [Ba_t27.cell]; rfl
    have qBa1 : wr.cell? ⟨w1.heap.size, 1, none⟩ = some (.slice ada la.length ca) := by rw [Ba_t27.cell]; rfl
    have qBb0 : wr.cell? ⟨w1.heap.size + 1, 0, none⟩ = some (.int .i64 ab) := by rw [Bb_t27.cell]; rfl
    have qBb1 : wr.cell? ⟨w1.heap.size + 1, 1, none⟩ = some (.slice adb lb.length cb) := by rw [Bb_t27.cell]; rfl
    have qBx0 : wr.cell? ⟨w2.heap.size, 0, none⟩ = some (.int .i64 RZ) := by rw [Bx_t27.cell]; rfl
    have qBx1 : wr.cell? ⟨w2.heap.size, 1, none⟩ = some (.slice adx RL.length cx) := by rw [Bx_t27.cell]; rfl
    have qBu0 : wr.cell? ⟨w4.heap.size + 1, 0, none⟩ = some (.int .i64 ab) := by rw [Bu_t27.cell]; rfl
    have qBu1 : wr.cell? ⟨w4.heap.size + 1, 1, none⟩ = some (.slice (some ⟨ebE, eoE, none⟩) xm.length cum) := by rw [Bu_t27.cell]; rfl
    have qE0 : wr.cell? ⟨ebE, eoE + k * 3, none⟩ = some (.string xm[k].k) := ((um_t27.rd'.2.2.2).fixX rfl hlt).1
    have qE1 : wr.cell? ⟨ebE, eoE + k * 3 + 1, none⟩ = some (.int .i64 xm[k].n) := ((um_t27.rd'.2.2.2).fixX rfl hlt).2.1
    have qE2 : wr.cell? ⟨ebE, eoE + k * 3 + 2, none⟩ = some (.bool xm[k].g) := ((um_t27.rd'.2.2.2).fixX rfl hlt).2.2
    go_wp2
    clear qBa0 qBa1 qBb0 qBb1 qBx0 qBx1 qBu0 qBu1
    clear qE0 qE1 qE2
    go_loopw [15] (fun i W => ∃ j : Nat, j ≤ lb.length ∧ i = .int .i64 j ∧ Hid (∀ y ∈ lb.take j, xm[k].k ≠ y.k) ∧ Below wr.heap.size wr W) (fun i _ => lb.length - (intOf i).toNat)
    case atStart => exact ⟨0, Nat.zero_le _, rfl, Lib.hid (fun u hu => by simp at hu), Below.refl _ _⟩
    case round =>
     obtain ⟨j, hj, rfl, HJ, hbm⟩ := hrel
     have lq1 := hbm
     have a_t29 := a_t27.next hbm
     clear a_t27
     have b_t29 := b_t27.next hbm
     clear b_t27
     have x_t29 := x_t27.next hbm
     clear x_t27
     have um_t29 := um_t27.next hbm
     clear um_t27
     have Ba_t29 := Ba_t27.next hbm
     clear Ba_t27
     have Bb_t29 := Bb_t27.next hbm
     clear Bb_t27
     have Bx_t29 := Bx_t27.next hbm
     clear Bx_t27
     have Bu_t29 := Bu_t27.next hbm
     clear Bu_t27
     have hw_t29 := below_next hw_t27 hbm
     have hs_t29 := hbm.size
     have lw0_t30 := below_next lq0 hbm
     by_cases hjt : j < lb.length
     ·
      obtain ⟨ebF, eoF, rfl, hqF, _⟩ := (b_t29.rd'.2.2.2).atX hjt
      clear hqF
      have hjI := lenI _ _ hjt
      cases he : xm[k].k.toList == lb[j].k.toList
      ·
       have HE : Hid (∀ y ∈ lb.take (j + 1), xm[k].k ≠ y.k) := Lib.hid (all_succ hjt HJ.out (fun e => by rw [e] at he; simp at he))
       have qBa0 : wr.cell? ⟨w1.heap.size, 0, none⟩ = some (.int .i64 za) := by rw [Ba_t29.cell]; rfl
       have qBa1 : wr.cell? ⟨w1.heap.size, 1, none⟩ = some (.slice ada la.length ca) := by rw [Ba_t29.cell]; rfl
       have qBb0 : wr.cell? ⟨w1.heap.size + 1, 0, none⟩ = some (.int .i64 ab) := by rw [Bb_t29.cell]; rfl
       have qBb1 : wr.cell? ⟨w1.heap.size + 1, 1, none⟩ = some (.slice (some ⟨ebF, eoF, none⟩) lb.length cb) := by rw [Bb_t29.cell]; rfl
       have qBx0 : wr.cell? ⟨w2.heap.size, 0, none⟩ = some (.int .i64 RZ) := by rw [Bx_t29.cell]; rfl
       have qBx1 : wr.cell? ⟨w2.heap.size, 1, none⟩ = some (.slice adx RL.length cx) := by rw [Bx_t29.cell]; rfl
       have qBu0 : wr.cell? ⟨w4.heap.size + 1, 0, none⟩ = some (.int .i64 ab) := by rw [Bu_t29.cell]; rfl
       have qBu1 : wr.cell? ⟨w4.heap.size + 1, 1, none⟩ = some (.slice (some ⟨ebE, eoE, none⟩) xm.length cum) := by rw [Bu_t29.cell]; rfl
       have qE0 : wr.cell? ⟨ebE, eoE + k * 3, none⟩ = some (.string xm[k].k) := ((um_t29.rd'.2.2.2).fixX rfl hlt).1
       have qE1 : wr.cell? ⟨ebE, eoE + k * 3 + 1, none⟩ = some (.int .i64 xm[k].n) := ((um_t29.rd'.2.2.2).fixX rfl hlt).2.1
       have qE2 : wr.cell? ⟨ebE, eoE + k * 3 + 2, none⟩ = some (.bool xm[k].g) := ((um_t29.rd'.2.2.2).fixX rfl hlt).2.2
       have qF0 : wr.cell? ⟨ebF, eoF + j * 3, none⟩ = some (.string lb[j].k) := ((b_t29.rd'.2.2.2).fixX rfl hjt).1
       have qF1 : wr.cell? ⟨ebF, eoF + j * 3 + 1, none⟩ = some (.int .i64 lb[j].n) := ((b_t29.rd'.2.2.2).fixX rfl hjt).2.1
       have qF2 : wr.cell? ⟨ebF, eoF + j * 3 + 2, none⟩ = some (.bool lb[j].g) := ((b_t29.rd'.2.2.2).fixX rfl hjt).2.2
       go_wp2
       clear qBa0 qBa1 qBb0 qBb1 qBx0 qBx1 qBu0 qBu1
       clear qE0 qE1 qE2
       clear qF0 qF1 qF2
       have hb_t31 : Below wr.heap.size wr wr.drew := (Below.refl _ _).drew
       have a_t32 := a_t29.next hb_t31
       clear a_t29
       have b_t32 := b_t29.next hb_t31
       clear b_t29
       have x_t32 := x_t29.next hb_t31
       clear x_t29
       have um_t32 := um_t29.next hb_t31
       clear um_t29
       have Ba_t32 := Ba_t29.next hb_t31
       clear Ba_t29
       have Bb_t32 := Bb_t29.next hb_t31
       clear Bb_t29
       have Bx_t32 := Bx_t29.next hb_t31
       clear Bx_t29
       have Bu_t32 := Bu_t29.next hb_t31
       clear Bu_t29
       have hw_t32 := below_next hw_t29 hb_t31
       have hs_t32 := hb_t31.size
       have lw0_t33 := below_next lw0_t30 hb_t31
       have lw1_t33 := below_next lq1 hb_t31
       refine wp_region_held_drew (S := (fun W => W.cell? ⟨w1.heap.size, 0, none⟩ = some (.int .i64 za) ∧ W.cell? ⟨w1.heap.size, 1, none⟩ = some (.slice ada la.length ca) ∧ W.cell? ⟨w1.heap.size + 1, 0, none⟩ = some (.int .i64 ab) ∧ W.cell? ⟨w1.heap.size + 1, 1, none⟩ = some (.slice (some ⟨ebF, eoF, none⟩) lb.length cb) ∧ W.cell? ⟨w2.heap.size, 0, none⟩ = some (.int .i64 RZ) ∧ W.cell? ⟨w2.heap.size, 1, none⟩ = some (.slice adx RL.length cx) ∧ W.cell? ⟨w4.heap.size + 1, 0, none⟩ = some (.int .i64 ab) ∧ W.cell? ⟨w4.heap.size + 1, 1, none⟩ = some (.slice (some ⟨ebE, eoE, none⟩) xm.length cum) ∧ W.cell? ⟨ebE, eoE + k * 3, none⟩ = some (.string xm[k].k) ∧ W.cell? ⟨ebE, eoE + k * 3 + 1, none⟩ = some (.int .i64 xm[k].n) ∧ W.cell? ⟨ebE, eoE + k * 3 + 2, none⟩ = some (.bool xm[k].g) ∧ W.cell? ⟨ebF, eoF + j * 3, none⟩ = some (.string lb[j].k) ∧ W.cell? ⟨ebF, eoF + j * 3 + 1, none⟩ = some (.int .i64 lb[j].n) ∧ W.cell? ⟨ebF, eoF + j * 3 + 2, none⟩ = some (.bool lb[j].g))) (by kernel_rfl) ?_ (fun hHeld => ?_)
       focus ((try dsimp only); (exact ⟨by rw [Ba_t32.cell]; rfl, by rw [Ba_t32.cell]; rfl, by rw [Bb_t32.cell]; rfl, by rw [Bb_t32.cell]; rfl, by rw [Bx_t32.cell]; rfl, by rw [Bx_t32.cell]; rfl, by rw [Bu_t32.cell]; rfl, by rw [Bu_t32.cell]; rfl, ((um_t32.rd'.2.2.2).fixX rfl hlt).1, ((um_t32.rd'.2.2.2).fixX rfl hlt).2.1, ((um_t32.rd'.2.2.2).fixX rfl hlt).2.2, ((b_t32.rd'.2.2.2).fixX rfl hjt).1, ((b_t32.rd'.2.2.2).fixX rfl hjt).2.1, ((b_t32.rd'.2.2.2).fixX rfl hjt).2.2⟩))
       refine tk 0 ?_
       refine tk 1 ?_
       refine tk 2 ?_
       refine tk 3 ?_
       refine tk 4 ?_
       refine tk 5 ?_
       refine tk 6 ?_
       refine tk 7 ?_
       refine tk 8 ?_
       refine tk 9 ?_
       refine tk 10 ?_
       refine tk 11 ?_
       refine wpAnyH_done (by kernel_rfl) ?_ _
       have qBa0 : wr.drew.cell? ⟨w1.heap.size, 0, none⟩ = some (.int .i64 za) := by rw [Ba_t32.cell]; rfl
       have qBa1 : wr.drew.cell? ⟨w1.heap.size, 1, none⟩ = some (.slice ada la.length ca) := by rw [Ba_t32.cell]; rfl
       have qBb0 : wr.drew.cell? ⟨w1.heap.size + 1, 0, none⟩ = some (.int .i64 ab) := by rw [Bb_t32.cell]; rfl
       have qBb1 : wr.drew.cell? ⟨w1.heap.size + 1, 1, none⟩ = some (.slice (some ⟨ebF, eoF, none⟩) lb.length cb) := by rw [Bb_t32.cell]; rfl
       have qBx0 : wr.drew.cell? ⟨w2.heap.size, 0, none⟩ = some (.int .i64 RZ) := by rw [Bx_t32.cell]; rfl
       have qBx1 : wr.drew.cell? ⟨w2.heap.size, 1, none⟩ = some (.slice adx RL.length cx) := by rw [Bx_t32.cell]; rfl
       have qBu0 : wr.drew.cell? ⟨w4.heap.size + 1, 0, none⟩ = some (.int .i64 ab) := by rw [Bu_t32.cell]; rfl
       have qBu1 : wr.drew.cell? ⟨w4.heap.size + 1, 1, none⟩ = some (.slice (some ⟨ebE, eoE, none⟩) xm.length cum) := by rw [Bu_t32.cell]; rfl
       have qE0 : wr.drew.cell? ⟨ebE, eoE + k * 3, none⟩ = some (.string xm[k].k) := ((um_t32.rd'.2.2.2).fixX rfl hlt).1
       have qE1 : wr.drew.cell? ⟨ebE, eoE + k * 3 + 1, none⟩ = some (.int .i64 xm[k].n) := ((um_t32.rd'.2.2.2).fixX rfl hlt).2.1
       have qE2 : wr.drew.cell? ⟨ebE, eoE + k * 3 + 2, none⟩ = some (.bool xm[k].g) := ((um_t32.rd'.2.2.2).fixX rfl hlt).2.2
       have qF0 : wr.drew.cell? ⟨ebF, eoF + j * 3, none⟩ = some (.string lb[j].k) := ((b_t32.rd'.2.2.2).fixX rfl hjt).1
       have qF1 : wr.drew.cell? ⟨ebF, eoF + j * 3 + 1, none⟩ = some (.int .i64 lb[j].n) := ((b_t32.rd'.2.2.2).fixX rfl hjt).2.1
       have qF2 : wr.drew.cell? ⟨ebF, eoF + j * 3 + 2, none⟩ = some (.bool lb[j].g) := ((b_t32.rd'.2.2.2).fixX rfl hjt).2.2
       go_wp2
       go_roundw
       case rel => exact ⟨j + 1, by omega, by go_num, HE, lw1_t33⟩
       case measure => simp [intOf]; omega
      ·
       have qBa0 : wr.cell? ⟨w1.heap.size, 0, none⟩ = some (.int .i64 za) := by rw [Ba_t29.cell]; rfl
       have qBa1 : wr.cell? ⟨w1.heap.size, 1, none⟩ = some (.slice ada la.length ca) := by rw [Ba_t29.cell]; rfl
       have qBb0 : wr.cell? ⟨w1.heap.size + 1, 0, none⟩ = some (.int .i64 ab) := by rw [Bb_t29.cell]; rfl
       have qBb1 : wr.cell? ⟨w1.heap.size + 1, 1, none⟩ = some (.slice (some ⟨ebF, eoF, none⟩) lb.length cb) := by rw [Bb_t29.cell]; rfl
       have qBx0 : wr.cell? ⟨w2.heap.size, 0, none⟩ = some (.int .i64 RZ) := by rw [Bx_t29.cell]; rfl
       have qBx1 : wr.cell? ⟨w2.heap.size, 1, none⟩ = some (.slice adx RL.length cx) := by rw [Bx_t29.cell]; rfl
       have qBu0 : wr.cell? ⟨w4.heap.size + 1, 0, none⟩ = some (.int .i64 ab) := by rw [Bu_t29.cell]; rfl
       have qBu1 : wr.cell? ⟨w4.heap.size + 1, 1, none⟩ = some (.slice (some ⟨ebE, eoE, none⟩) xm.length cum) := by rw [Bu_t29.cell]; rfl
       have qE0 : wr.cell? ⟨ebE, eoE + k * 3, none⟩ = some (.string xm[k].k) := ((um_t29.rd'.2.2.2).fixX rfl hlt).1
       have qE1 : wr.cell? ⟨ebE, eoE + k * 3 + 1, none⟩ = some (.int .i64 xm[k].n) := ((um_t29.rd'.2.2.2).fixX rfl hlt).2.1
       have qE2 : wr.cell? ⟨ebE, eoE + k * 3 + 2, none⟩ = some (.bool xm[k].g) := ((um_t29.rd'.2.2.2).fixX rfl hlt).2.2
       have qF0 : wr.cell? ⟨ebF, eoF + j * 3, none⟩ = some (.string lb[j].k) := ((b_t29.rd'.2.2.2).fixX rfl hjt).1
       have qF1 : wr.cell? ⟨ebF, eoF + j * 3 + 1, none⟩ = some (.int .i64 lb[j].n) := ((b_t29.rd'.2.2.2).fixX rfl hjt).2.1
       have qF2 : wr.cell? ⟨ebF, eoF + j * 3 + 2, none⟩ = some (.bool lb[j].g) := ((b_t29.rd'.2.2.2).fixX rfl hjt).2.2
       go_wp2
       clear qBa0 qBa1 qBb0 qBb1 qBx0 qBx1 qBu0 qBu1
       clear qE0 qE1 qE2
       clear qF0 qF1 qF2
       have hb_t31 : Below wr.heap.size wr wr.drew := (Below.refl _ _).drew
       have a_t32 := a_t29.next hb_t31
       clear a_t29
       have b_t32 := b_t29.next hb_t31
       clear b_t29
       have x_t32 := x_t29.next hb_t31
       clear x_t29
       have um_t32 := um_t29.next hb_t31
       clear um_t29
       have Ba_t32 := Ba_t29.next hb_t31
       clear Ba_t29
       have Bb_t32 := Bb_t29.next hb_t31
       clear Bb_t29
       have Bx_t32 := Bx_t29.next hb_t31
       clear Bx_t29
       have Bu_t32 := Bu_t29.next hb_t31
       clear Bu_t29
       have hw_t32 := below_next hw_t29 hb_t31
       have hs_t32 := hb_t31.size
       have lw0_t33 := below_next lw0_t30 hb_t31
       have lw1_t33 := below_next lq1 hb_t31
       refine wp_region_held_drew (S := (fun W => W.cell? ⟨w1.heap.size, 0, none⟩ = some (.int .i64 za) ∧ W.cell? ⟨w1.heap.size, 1, none⟩ = some (.slice ada la.length ca) ∧ W.cell? ⟨w1.heap.size + 1, 0, none⟩ = some (.int .i64 ab) ∧ W.cell? ⟨w1.heap.size + 1, 1, none⟩ = some (.slice (some ⟨ebF, eoF, none⟩) lb.length cb) ∧ W.cell? ⟨w2.heap.size, 0, none⟩ = some (.int .i64 RZ) ∧ W.cell? ⟨w2.heap.size, 1, none⟩ = some (.slice adx RL.length cx) ∧ W.cell? ⟨w4.heap.size + 1, 0, none⟩ = some (.int .i64 ab) ∧ W.cell? ⟨w4.heap.size + 1, 1, none⟩ = some (.slice (some ⟨ebE, eoE, none⟩) xm.length cum) ∧ W.cell? ⟨ebE, eoE + k * 3, none⟩ = some (.string xm[k].k) ∧ W.cell? ⟨ebE, eoE + k * 3 + 1, none⟩ = some (.int .i64 xm[k].n) ∧ W.cell? ⟨ebE, eoE + k * 3 + 2, none⟩ = some (.bool xm[k].g) ∧ W.cell? ⟨ebF, eoF + j * 3, none⟩ = some (.string lb[j].k) ∧ W.cell? ⟨ebF, eoF + j * 3 + 1, none⟩ = some (.int .i64 lb[j].n) ∧ W.cell? ⟨ebF, eoF + j * 3 + 2, none⟩ = some (.bool lb[j].g))) (by kernel_rfl) ?_ (fun hHeld => ?_)
       focus ((try dsimp only); (exact ⟨by rw [Ba_t32.cell]; rfl, by rw [Ba_t32.cell]; rfl, by rw [Bb_t32.cell]; rfl, by rw [Bb_t32.cell]; rfl, by rw [Bx_t32.cell]; rfl, by rw [Bx_t32.cell]; rfl, by rw [Bu_t32.cell]; rfl, by rw [Bu_t32.cell]; rfl, ((um_t32.rd'.2.2.2).fixX rfl hlt).1, ((um_t32.rd'.2.2.2).fixX rfl hlt).2.1, ((um_t32.rd'.2.2.2).fixX rfl hlt).2.2, ((b_t32.rd'.2.2.2).fixX rfl hjt).1, ((b_t32.rd'.2.2.2).fixX rfl hjt).2.1, ((b_t32.rd'.2.2.2).fixX rfl hjt).2.2⟩))
       refine tk 0 ?_
       refine tk 1 ?_
       refine tk 2 ?_
       refine tk 3 ?_
       refine tk 4 ?_
       refine tk 5 ?_
       refine tk 6 ?_
       refine tk 7 ?_
       refine tk 8 ?_
       refine tk 9 ?_
       refine tk 10 ?_
       refine tk 11 ?_
       refine wpAnyH_done (by kernel_rfl) ?_ _
       have qBa0 : wr.drew.cell? ⟨w1.heap.size, 0, none⟩ = some (.int .i64 za) := by rw [Ba_t32.cell]; rfl
       have qBa1 : wr.drew.cell? ⟨w1.heap.size, 1, none⟩ = some (.slice ada la.length ca) := by rw [Ba_t32.cell]; rfl
       have qBb0 : wr.drew.cell? ⟨w1.heap.size + 1, 0, none⟩ = some (.int .i64 ab) := by rw [Bb_t32.cell]; rfl
       have qBb1 : wr.drew.cell? ⟨w1.heap.size + 1, 1, none⟩ = some (.slice (some ⟨ebF, eoF, none⟩) lb.length cb) := by rw [Bb_t32.cell]; rfl
       have qBx0 : wr.drew.cell? ⟨w2.heap.size, 0, none⟩ = some (.int .i64 RZ) := by rw [Bx_t32.cell]; rfl
       have qBx1 : wr.drew.cell? ⟨w2.heap.size, 1, none⟩ = some (.slice adx RL.length cx) := by rw [Bx_t32.cell]; rfl
       have qBu0 : wr.drew.cell? ⟨w4.heap.size + 1, 0, none⟩ = some (.int .i64 ab) := by rw [Bu_t32.cell]; rfl
       have qBu1 : wr.drew.cell? ⟨w4.heap.size + 1, 1, none⟩ = some (.slice (some ⟨ebE, eoE, none⟩) xm.length cum) := by rw [Bu_t32.cell]; rfl
       have qE0 : wr.drew.cell? ⟨ebE, eoE + k * 3, none⟩ = some (.string xm[k].k) := ((um_t32.rd'.2.2.2).fixX rfl hlt).1
       have qE1 : wr.drew.cell? ⟨ebE, eoE + k * 3 + 1, none⟩ = some (.int .i64 xm[k].n) := ((um_t32.rd'.2.2.2).fixX rfl hlt).2.1
       have qE2 : wr.drew.cell? ⟨ebE, eoE + k * 3 + 2, none⟩ = some (.bool xm[k].g) := ((um_t32.rd'.2.2.2).fixX rfl hlt).2.2
       have qF0 : wr.drew.cell? ⟨ebF, eoF + j * 3, none⟩ = some (.string lb[j].k) := ((b_t32.rd'.2.2.2).fixX rfl hjt).1
       have qF1 : wr.drew.cell? ⟨ebF, eoF + j * 3 + 1, none⟩ = some (.int .i64 lb[j].n) := ((b_t32.rd'.2.2.2).fixX rfl hjt).2.1
       have qF2 : wr.drew.cell? ⟨ebF, eoF + j * 3 + 2, none⟩ = some (.bool lb[j].g) := ((b_t32.rd'.2.2.2).fixX rfl hjt).2.2
       go_wp2
       go_ret
       exact ⟨rfl, hw_t32⟩
     ·
      have hjI : decide ((j : Int) < (lb.length : Int)) = false := decide_eq_false (by omega)
      have HE : Hid (∀ u ∈ xm.take (k + 1), ∀ y ∈ lb, u.k ≠ y.k) := Lib.hid (all_succ hlt HK.out (by have h := HJ.out; rw [show j = lb.length from by omega, List.take_length] at h; exact h))
      have qBa0 : wr.cell? ⟨w1.heap.size, 0, none⟩ = some (.int .i64 za) := by rw [Ba_t29.cell]; rfl
      have qBa1 : wr.cell? ⟨w1.heap.size, 1, none⟩ = some (.slice ada la.length ca) := by rw [Ba_t29.cell]; rfl
      have qBb0 : wr.cell? ⟨w1.heap.size + 1, 0, none⟩ = some (.int .i64 ab) := by rw [Bb_t29.cell]; rfl
      have qBb1 : wr.cell? ⟨w1.heap.size + 1, 1, none⟩ = some (.slice adb lb.length cb) := by rw [Bb_t29.cell]; rfl
      have qBx0 : wr.cell? ⟨w2.heap.size, 0, none⟩ = some (.int .i64 RZ) := by rw [Bx_t29.cell]; rfl
      have qBx1 : wr.cell? ⟨w2.heap.size, 1, none⟩ = some (.slice adx RL.length cx) := by rw [Bx_t29.cell]; rfl
      have qBu0 : wr.cell? ⟨w4.heap.size + 1, 0, none⟩ = some (.int .i64 ab) := by rw [Bu_t29.cell]; rfl
      have qBu1 : wr.cell? ⟨w4.heap.size + 1, 1, none⟩ = some (.slice (some ⟨ebE, eoE, none⟩) xm.length cum) := by rw [Bu_t29.cell]; rfl
      have qE0 : wr.cell? ⟨ebE, eoE + k * 3, none⟩ = some (.string xm[k].k) := ((um_t29.rd'.2.2.2).fixX rfl hlt).1
      have qE1 : wr.cell? ⟨ebE, eoE + k * 3 + 1, none⟩ = some (.int .i64 xm[k].n) := ((um_t29.rd'.2.2.2).fixX rfl hlt).2.1
      have qE2 : wr.cell? ⟨ebE, eoE + k * 3 + 2, none⟩ = some (.bool xm[k].g) := ((um_t29.rd'.2.2.2).fixX rfl hlt).2.2
      go_wp2
      go_roundw
      case rel => exact ⟨k + 1, by omega, by go_num, HE, lw0_t30⟩
      case measure => simp [intOf]; omega
   ·
    have hkI : decide ((k : Int) < (xm.length : Int)) = false := decide_eq_false (by omega)
    have HAP : Hid (∀ u ∈ xm, ∀ y ∈ lb, u.k ≠ y.k) := Lib.hid (by have h := HK.out; rw [show k = xm.length from by omega, List.take_length] at h; exact h)
    clear HK
    have h8_Y := end_len8 (z := za) (a := ab) hfa hfxm (by omega)
    obtain ⟨YZ, YL, YC, HY⟩ : ∃ YZ YL YC, Hid (endZ za la ab xm = YZ ∧ endL za la ab xm = YL ∧ endC za la ab xm = YC) := ⟨_, _, _, Lib.hid ⟨rfl, rfl, rfl⟩⟩
    rw [HY.out.2.1] at h8_Y
    obtain ⟨hl_Y, hf_Y⟩ := h8_Y
    have qBa0 : wr.cell? ⟨w1.heap.size, 0, none⟩ = some (.int .i64 za) := by rw [Ba_t27.cell]; rfl
    have qBa1 : wr.cell? ⟨w1.heap.size, 1, none⟩ = some (.slice ada la.length ca) := by rw [Ba_t27.cell]; rfl
    have qBb0 : wr.cell? ⟨w1.heap.size + 1, 0, none⟩ = some (.int .i64 ab) := by rw [Bb_t27.cell]; rfl
    have qBb1 : wr.cell? ⟨w1.heap.size + 1, 1, none⟩ = some (.slice adb lb.length cb) := by rw [Bb_t27.cell]; rfl
    have qBx0 : wr.cell? ⟨w2.heap.size, 0, none⟩ = some (.int .i64 RZ) := by rw [Bx_t27.cell]; rfl
    have qBx1 : wr.cell? ⟨w2.heap.size, 1, none⟩ = some (.slice adx RL.length cx) := by rw [Bx_t27.cell]; rfl
    have qBu0 : wr.cell? ⟨w4.heap.size + 1, 0, none⟩ = some (.int .i64 ab) := by rw [Bu_t27.cell]; rfl
    have qBu1 : wr.cell? ⟨w4.heap.size + 1, 1, none⟩ = some (.slice adum xm.length cum) := by rw [Bu_t27.cell]; rfl
    go_wp2_with fail
    clear qBa0 qBa1 qBb0 qBb1 qBx0 qBx1 qBu0 qBu1
    refine (implWorkEndO a_t27 um_t27 hfa hfxm (by omega) (by omega)).mono ?_
    rw [HY.out.1, HY.out.2.1, HY.out.2.2]
    rintro e w5 ⟨Vy, rfl, y_n, hb5⟩
    obtain ⟨ady, cy, rfl, ry1_y, ry2_y, ry3_y⟩ := y_n.read
    clear ry1_y ry2_y ry3_y
    have a_t29 := a_t27.next hb5
    clear a_t27
    have b_t29 := b_t27.next hb5
    clear b_t27
    have x_t29 := x_t27.next hb5
    clear x_t27
    have um_t29 := um_t27.next hb5
    clear um_t27
    have Ba_t29 := Ba_t27.next hb5
    clear Ba_t27
    have Bb_t29 := Bb_t27.next hb5
    clear Bb_t27
    have Bx_t29 := Bx_t27.next hb5
    clear Bx_t27
    have Bu_t29 := Bu_t27.next hb5
    clear Bu_t27
    have hw_t29 := below_next hw_t27 hb5
    have hs_t29 := hb5.size
    have lw0_t30 := below_next lq0 hb5
    have hb_t31 := below_alloc (Below.refl _ w5) (.cells #[.int .i64 YZ, .slice ady YL.length cy] 34)
    have By_t31 := blkA w5 #[.int .i64 YZ, .slice ady YL.length cy] 34
    have hz_t31 : (w5.alloc (.cells #[.int .i64 YZ, .slice ady YL.length cy] 34)).heap.size = w5.heap.size + 1 := World.size_alloc _ _
    have a_t32 := a_t29.next hb_t31
    clear a_t29
    have b_t32 := b_t29.next hb_t31
    clear b_t29
    have x_t32 := x_t29.next hb_t31
    clear x_t29
    have um_t32 := um_t29.next hb_t31
    clear um_t29
    have y_t32 := y_n.next hb_t31
    clear y_n
    have Ba_t32 := Ba_t29.next hb_t31
    clear Ba_t29
    have Bb_t32 := Bb_t29.next hb_t31
    clear Bb_t29
    have Bx_t32 := Bx_t29.next hb_t31
    clear Bx_t29
    have Bu_t32 := Bu_t29.next hb_t31
    clear Bu_t29
    have hw_t32 := below_next hw_t29 hb_t31
    have hs_t32 := hb_t31.size
    have lw0_t33 := below_next lw0_t30 hb_t31
    have h8_D := end_len8 (z := RZ) (a := ab) hfR hfxm (by omega)
    obtain ⟨DZ, DL, DC, HD⟩ : ∃ DZ DL DC, Hid (endZ RZ RL ab xm = DZ ∧ endL RZ RL ab xm = DL ∧ endC RZ RL ab xm = DC) := ⟨_, _, _, Lib.hid ⟨rfl, rfl, rfl⟩⟩
    rw [HD.out.2.1] at h8_D
    obtain ⟨hl_D, hf_D⟩ := h8_D
    have qBa0 : (w5.alloc (.cells #[.int .i64 YZ, .slice ady YL.length cy] 34)).cell? ⟨w1.heap.size, 0, none⟩ = some (.int .i64 za) := by rw [Ba_t32.cell]; rfl
    have qBa1 : (w5.alloc (.cells #[.int .i64 YZ, .slice ady YL.length cy] 34)).cell? ⟨w1.heap.size, 1, none⟩ = some (.slice ada la.length ca) := by rw [Ba_t32.cell]; rfl
    have qBb0 : (w5.alloc (.cells #[.int .i64 YZ, .slice ady YL.length cy] 34)).cell? ⟨w1.heap.size + 1, 0, none⟩ = some (.int .i64 ab) := by rw [Bb_t32.cell]; rfl
    have qBb1 : (w5.alloc (.cells #[.int .i64 YZ, .slice ady YL.length cy] 34)).cell? ⟨w1.heap.size + 1, 1, none⟩ = some (.slice adb lb.length cb) := by rw [Bb_t32.cell]; rfl
    have qBx0 : (w5.alloc (.cells #[.int .i64 YZ, .slice ady YL.length cy] 34)).cell? ⟨w2.heap.size, 0, none⟩ = some (.int .i64 RZ) := by rw [Bx_t32.cell]; rfl
    have qBx1 : (w5.alloc (.cells #[.int .i64 YZ, .slice ady YL.length cy] 34)).cell? ⟨w2.heap.size, 1, none⟩ = some (.slice adx RL.length cx) := by rw [Bx_t32.cell]; rfl
    have qBu0 : (w5.alloc (.cells #[.int .i64 YZ, .slice ady YL.length cy] 34)).cell? ⟨w4.heap.size + 1, 0, none⟩ = some (.int .i64 ab) := by rw [Bu_t32.cell]; rfl
    have qBu1 : (w5.alloc (.cells #[.int .i64 YZ, .slice ady YL.length cy] 34)).cell? ⟨w4.heap.size + 1, 1, none⟩ = some (.slice adum xm.length cum) := by rw [Bu_t32.cell]; rfl
    have qBy0 : (w5.alloc (.cells #[.int .i64 YZ, .slice ady YL.length cy] 34)).cell? ⟨w5.heap.size, 0, none⟩ = some (.int .i64 YZ) := by rw [By_t31.cell]; rfl
    have qBy1 : (w5.alloc (.cells #[.int .i64 YZ, .slice ady YL.length cy] 34)).cell? ⟨w5.heap.size, 1, none⟩ = some (.slice ady YL.length cy) := by rw [By_t31.cell]; rfl
    go_wp2_with fail
    clear qBa0 qBa1 qBb0 qBb1 qBx0 qBx1 qBu0 qBu1 qBy0 qBy1
    refine (implWorkEndO x_t32 um_t32 hfR hfxm (by omega) (by omega)).mono ?_
    rw [HD.out.1, HD.out.2.1, HD.out.2.2]
    rintro e w6 ⟨Vd, rfl, d_n, hb6⟩
    obtain ⟨add, cd, rfl, ry1_d, ry2_d, ry3_d⟩ := d_n.read
    clear ry1_d ry2_d ry3_d
    have a_t34 := a_t32.next hb6
    clear a_t32
    have b_t34 := b_t32.next hb6
    clear b_t32
    have x_t34 := x_t32.next hb6
    clear x_t32
    have um_t34 := um_t32.next hb6
    clear um_t32
    have y_t34 := y_t32.next hb6
    clear y_t32
    have Ba_t34 := Ba_t32.next hb6
    clear Ba_t32
    have Bb_t34 := Bb_t32.next hb6
    clear Bb_t32
    have Bx_t34 := Bx_t32.next hb6
    clear Bx_t32
    have Bu_t34 := Bu_t32.next hb6
    clear Bu_t32
    have By_t34 := By_t31.next hb6
    clear By_t31
    have hw_t34 := below_next hw_t32 hb6
    have hs_t34 := hb6.size
    have lw0_t35 := below_next lw0_t33 hb6
    have hb_t36 := below_alloc (Below.refl _ w6) (.cells #[.int .i64 DZ, .slice add DL.length cd] 34)
    have Bd_t36 := blkA w6 #[.int .i64 DZ, .slice add DL.length cd] 34
    have hz_t36 : (w6.alloc (.cells #[.int .i64 DZ, .slice add DL.length cd] 34)).heap.size = w6.heap.size + 1 := World.size_alloc _ _
    have a_t37 := a_t34.next hb_t36
    clear a_t34
    have b_t37 := b_t34.next hb_t36
    clear b_t34
    have x_t37 := x_t34.next hb_t36
    clear x_t34
    have um_t37 := um_t34.next hb_t36
    clear um_t34
    have y_t37 := y_t34.next hb_t36
    clear y_t34
    have d_t37 := d_n.next hb_t36
    clear d_n
    have Ba_t37 := Ba_t34.next hb_t36
    clear Ba_t34
    have Bb_t37 := Bb_t34.next hb_t36
    clear Bb_t34
    have Bx_t37 := Bx_t34.next hb_t36
    clear Bx_t34
    have Bu_t37 := Bu_t34.next hb_t36
    clear Bu_t34
    have By_t37 := By_t34.next hb_t36
    clear By_t34
    have hw_t37 := below_next hw_t34 hb_t36
    have hs_t37 := hb_t36.size
    have lw0_t38 := below_next lw0_t35 hb_t36
    have h8_E := end_len8 (z := YZ) (a := ab) hf_Y hfb (by omega)
    obtain ⟨EZ, EL, EC, HE⟩ : ∃ EZ EL EC, Hid (endZ YZ YL ab lb = EZ ∧ endL YZ YL ab lb = EL ∧ endC YZ YL ab lb = EC) := ⟨_, _, _, Lib.hid ⟨rfl, rfl, rfl⟩⟩
    rw [HE.out.2.1] at h8_E
    obtain ⟨hl_E, hf_E⟩ := h8_E
    have qBa0 : (w6.alloc (.cells #[.int .i64 DZ, .slice add DL.length cd] 34)).cell? ⟨w1.heap.size, 0, none⟩ = some (.int .i64 za) := by rw [Ba_t37.cell]; rfl
    have qBa1 : (w6.alloc (.cells #[.int .i64 DZ, .slice add DL.length cd] 34)).cell? ⟨w1.heap.size, 1, none⟩ = some (.slice ada la.length ca) := by rw [Ba_t37.cell]; rfl
    have qBb0 : (w6.alloc (.cells #[.int .i64 DZ, .slice add DL.length cd] 34)).cell? ⟨w1.heap.size + 1, 0, none⟩ = some (.int .i64 ab) := by rw [Bb_t37.cell]; rfl
    have qBb1 : (w6.alloc (.cells #[.int .i64 DZ, .slice add DL.length cd] 34)).cell? ⟨w1.heap.size + 1, 1, none⟩ = some (.slice adb lb.length cb) := by rw [Bb_t37.cell]; rfl
    have qBx0 : (w6.alloc (.cells #[.int .i64 DZ, .slice add DL.length cd] 34)).cell? ⟨w2.heap.size, 0, none⟩ = some (.int .i64 RZ) := by rw [Bx_t37.cell]; rfl
    have qBx1 : (w6.alloc (.cells #[.int .i64 DZ, .slice add DL.length cd] 34)).cell? ⟨w2.heap.size, 1, none⟩ = some (.slice adx RL.length cx) := by rw [Bx_t37.cell]; rfl
    have qBu0 : (w6.alloc (.cells #[.int .i64 DZ, .slice add DL.length cd] 34)).cell? ⟨w4.heap.size + 1, 0, none⟩ = some (.int .i64 ab) := by rw [Bu_t37.cell]; rfl
    have qBu1 : (w6.alloc (.cells #[.int .i64 DZ, .slice add DL.length cd] 34)).cell? ⟨w4.heap.size + 1, 1, none⟩ = some (.slice adum xm.length cum) := by rw [Bu_t37.cell]; rfl
    have qBy0 : (w6.alloc (.cells #[.int .i64 DZ, .slice add DL.length cd] 34)).cell? ⟨w5.heap.size, 0, none⟩ = some (.int .i64 YZ) := by rw [By_t37.cell]; rfl
    have qBy1 : (w6.alloc (.cells #[.int .i64 DZ, .slice add DL.length cd] 34)).cell? ⟨w5.heap.size, 1, none⟩ = some (.slice ady YL.length cy) := by rw [By_t37.cell]; rfl
    have qBd0 : (w6.alloc (.cells #[.int .i64 DZ, .slice add DL.length cd] 34)).cell? ⟨w6.heap.size, 0, none⟩ = some (.int .i64 DZ) := by rw [Bd_t36.cell]; rfl
    have qBd1 : (w6.alloc (.cells #[.int .i64 DZ, .slice add DL.length cd] 34)).cell? ⟨w6.heap.size, 1, none⟩ = some (.slice add DL.length cd) := by rw [Bd_t36.cell]; rfl
    go_wp2_with fail
    clear qBa0 qBa1 qBb0 qBb1 qBx0 qBx1 qBu0 qBu1 qBy0 qBy1 qBd0 qBd1
    refine (implWorkEndO y_t37 b_t37 hf_Y hfb (by omega) (by omega)).mono ?_
    rw [HE.out.1, HE.out.2.1, HE.out.2.2]
    rintro e w7 ⟨Ve2, rfl, e2_n, hb7⟩
    obtain ⟨ade2, ce2, rfl, ry1_e2, ry2_e2, ry3_e2⟩ := e2_n.read
    clear ry1_e2 ry2_e2 ry3_e2
    have a_t39 := a_t37.next hb7
    clear a_t37
    have b_t39 := b_t37.next hb7
    clear b_t37
    have x_t39 := x_t37.next hb7
    clear x_t37
    have um_t39 := um_t37.next hb7
    clear um_t37
    have y_t39 := y_t37.next hb7
    clear y_t37
    have d_t39 := d_t37.next hb7
    clear d_t37
    have Ba_t39 := Ba_t37.next hb7
    clear Ba_t37
    have Bb_t39 := Bb_t37.next hb7
    clear Bb_t37
    have Bx_t39 := Bx_t37.next hb7
    clear Bx_t37
    have Bu_t39 := Bu_t37.next hb7
    clear Bu_t37
    have By_t39 := By_t37.next hb7
    clear By_t37
    have Bd_t39 := Bd_t36.next hb7
    clear Bd_t36
    have hw_t39 := below_next hw_t37 hb7
    have hs_t39 := hb7.size
    have lw0_t40 := below_next lw0_t38 hb7
    have hb_t41 := below_alloc (Below.refl _ w7) (.cells #[.int .i64 EZ, .slice ade2 EL.length ce2] 34)
    have Be_t41 := blkA w7 #[.int .i64 EZ, .slice ade2 EL.length ce2] 34
    have hz_t41 : (w7.alloc (.cells #[.int .i64 EZ, .slice ade2 EL.length ce2] 34)).heap.size = w7.heap.size + 1 := World.size_alloc _ _
    have a_t42 := a_t39.next hb_t41
    clear a_t39
    have b_t42 := b_t39.next hb_t41
    clear b_t39
    have x_t42 := x_t39.next hb_t41
    clear x_t39
    have um_t42 := um_t39.next hb_t41
    clear um_t39
    have y_t42 := y_t39.next hb_t41
    clear y_t39
    have d_t42 := d_t39.next hb_t41
    clear d_t39
    have e2_t42 := e2_n.next hb_t41
    clear e2_n
    have Ba_t42 := Ba_t39.next hb_t41
    clear Ba_t39
    have Bb_t42 := Bb_t39.next hb_t41
    clear Bb_t39
    have Bx_t42 := Bx_t39.next hb_t41
    clear Bx_t39
    have Bu_t42 := Bu_t39.next hb_t41
    clear Bu_t39
    have By_t42 := By_t39.next hb_t41
    clear By_t39
    have Bd_t42 := Bd_t39.next hb_t41
    clear Bd_t39
    have hw_t42 := below_next hw_t39 hb_t41
    have hs_t42 := hb_t41.size
    have lw0_t43 := below_next lw0_t40 hb_t41
    by_cases hy : YC = 0
    ·
     subst hy
     by_cases hd : DC = 0
     ·
      subst hd
      by_cases he : EC = 0
      ·
       subst he
       have HAA := apart_end HC0.out HE1.out HE2.out HY.out.2.2 HY.out.1 HY.out.2.1 HD.out.2.2 HD.out.1 HD.out.2.1 HE.out.2.2 HE.out.1 HE.out.2.1 HAP.out
       obtain ⟨hzz, hvv⟩ := HAA
       have HVV := Lib.hid hvv
       clear hvv
       have hl_R1 := versAt_length DZ DL DZ
       have hf_R1 : FitR (versAt DZ DL DZ) := fitR_versAt (z := DZ) hf_D DZ
       obtain ⟨R1, HR1⟩ : ∃ R1, Hid (versAt DZ DL DZ = R1) := ⟨_, Lib.hid rfl⟩
       rw [HR1.out] at hl_R1 hf_R1
       have HR2 : Hid (versAt EZ EL EZ = R1) := Lib.hid (HVV.out.symm.trans HR1.out)
       have hze : (DZ == EZ) = true := by simp [hzz]
       clear hzz
       have qBa0 : (w7.alloc (.cells #[.int .i64 EZ, .slice ade2 EL.length ce2] 34)).cell? ⟨w1.heap.size, 0, none⟩ = some (.int .i64 za) := by rw [Ba_t42.cell]; rfl
       have qBa1 : (w7.alloc (.cells #[.int .i64 EZ, .slice ade2 EL.length ce2] 34)).cell? ⟨w1.heap.size, 1, none⟩ = some (.slice ada la.length ca) := by rw [Ba_t42.cell]; rfl
       have qBb0 : (w7.alloc (.cells #[.int .i64 EZ, .slice ade2 EL.length ce2] 34)).cell? ⟨w1.heap.size + 1, 0, none⟩ = some (.int .i64 ab) := by rw [Bb_t42.cell]; rfl
       have qBb1 : (w7.alloc (.cells #[.int .i64 EZ, .slice ade2 EL.length ce2] 34)).cell? ⟨w1.heap.size + 1, 1, none⟩ = some (.slice adb lb.length cb) := by rw [Bb_t42.cell]; rfl
       have qBx0 : (w7.alloc (.cells #[.int .i64 EZ, .slice ade2 EL.length ce2] 34)).cell? ⟨w2.heap.size, 0, none⟩ = some (.int .i64 RZ) := by rw [Bx_t42.cell]; rfl
       have qBx1 : (w7.alloc (.cells #[.int .i64 EZ, .slice ade2 EL.length ce2] 34)).cell? ⟨w2.heap.size, 1, none⟩ = some (.slice adx RL.length cx) := by rw [Bx_t42.cell]; rfl
       have qBu0 : (w7.alloc (.cells #[.int .i64 EZ, .slice ade2 EL.length ce2] 34)).cell? ⟨w4.heap.size + 1, 0, none⟩ = some (.int .i64 ab) := by rw [Bu_t42.cell]; rfl
       have qBu1 : (w7.alloc (.cells #[.int .i64 EZ, .slice ade2 EL.length ce2] 34)).cell? ⟨w4.heap.size + 1, 1, none⟩ = some (.slice adum xm.length cum) := by rw [Bu_t42.cell]; rfl
       have qBy0 : (w7.alloc (.cells #[.int .i64 EZ, .slice ade2 EL.length ce2] 34)).cell? ⟨w5.heap.size, 0, none⟩ = some (.int .i64 YZ) := by rw [By_t42.cell]; rfl
       have qBy1 : (w7.alloc (.cells #[.int .i64 EZ, .slice ade2 EL.length ce2] 34)).cell? ⟨w5.heap.size, 1, none⟩ = some (.slice ady YL.length cy) := by rw [By_t42.cell]; rfl
       have qBd0 : (w7.alloc (.cells #[.int .i64 EZ, .slice ade2 EL.length ce2] 34)).cell? ⟨w6.heap.size, 0, none⟩ = some (.int .i64 DZ) := by rw [Bd_t42.cell]; rfl
       have qBd1 : (w7.alloc (.cells #[.int .i64 EZ, .slice ade2 EL.length ce2] 34)).cell? ⟨w6.heap.size, 1, none⟩ = some (.slice add DL.length cd) := by rw [Bd_t42.cell]; rfl
       have qBe0 : (w7.alloc (.cells #[.int .i64 EZ, .slice ade2 EL.length ce2] 34)).cell? ⟨w7.heap.size, 0, none⟩ = some (.int .i64 EZ) := by rw [Be_t41.cell]; rfl
       have qBe1 : (w7.alloc (.cells #[.int .i64 EZ, .slice ade2 EL.length ce2] 34)).cell? ⟨w7.heap.size, 1, none⟩ = some (.slice ade2 EL.length ce2) := by rw [Be_t41.cell]; rfl
       go_wp2
       clear qBa0 qBa1 qBb0 qBb1 qBx0 qBx1 qBu0 qBu1 qBy0 qBy1 qBd0 qBd1 qBe0 qBe1
       have hb_t44 : Below (w7.alloc (.cells #[.int .i64 EZ, .slice ade2 EL.length ce2] 34)).heap.size (w7.alloc (.cells #[.int .i64 EZ, .slice ade2 EL.length ce2] 34)) (w7.alloc (.cells #[.int .i64 EZ, .slice ade2 EL.length ce2] 34)).drew := (Below.refl _ _).drew
       have a_t45 := a_t42.next hb_t44
       clear a_t42
       have b_t45 := b_t42.next hb_t44
       clear b_t42
       have x_t45 := x_t42.next hb_t44
       clear x_t42
       have um_t45 := um_t42.next hb_t44
       clear um_t42
       have y_t45 := y_t42.next hb_t44
       clear y_t42
       have d_t45 := d_t42.next hb_t44
       clear d_t42
       have e2_t45 := e2_t42.next hb_t44
       clear e2_t42
       have Ba_t45 := Ba_t42.next hb_t44
       clear Ba_t42
       have Bb_t45 := Bb_t42.next hb_t44
       clear Bb_t42
       have Bx_t45 := Bx_t42.next hb_t44
       clear Bx_t42
       have Bu_t45 := Bu_t42.next hb_t44
       clear Bu_t42
       have By_t45 := By_t42.next hb_t44
       clear By_t42
       have Bd_t45 := Bd_t42.next hb_t44
       clear Bd_t42
       have Be_t45 := Be_t41.next hb_t44
       clear Be_t41
       have hw_t45 := below_next hw_t42 hb_t44
       have hs_t45 := hb_t44.size
       have lw0_t46 := below_next lw0_t43 hb_t44
       refine wp_region_held_drew (S := (fun W => W.cell? ⟨w1.heap.size, 0, none⟩ = some (.int .i64 za) ∧ W.cell? ⟨w1.heap.size, 1, none⟩ = some (.slice ada la.length ca) ∧ W.cell? ⟨w1.heap.size + 1, 0, none⟩ = some (.int .i64 ab) ∧ W.cell? ⟨w1.heap.size + 1, 1, none⟩ = some (.slice adb lb.length cb) ∧ W.cell? ⟨w2.heap.size, 0, none⟩ = some (.int .i64 RZ) ∧ W.cell? ⟨w2.heap.size, 1, none⟩ = some (.slice adx RL.length cx) ∧ W.cell? ⟨w4.heap.size + 1, 0, none⟩ = some (.int .i64 ab) ∧ W.cell? ⟨w4.heap.size + 1, 1, none⟩ = some (.slice adum xm.length cum) ∧ W.cell? ⟨w5.heap.size, 0, none⟩ = some (.int .i64 YZ) ∧ W.cell? ⟨w5.heap.size, 1, none⟩ = some (.slice ady YL.length cy) ∧ W.cell? ⟨w6.heap.size, 0, none⟩ = some (.int .i64 DZ) ∧ W.cell? ⟨w6.heap.size, 1, none⟩ = some (.slice add DL.length cd) ∧ W.cell? ⟨w7.heap.size, 0, none⟩ = some (.int .i64 EZ) ∧ W.cell? ⟨w7.heap.size, 1, none⟩ = some (.slice ade2 EL.length ce2))) (by kernel_rfl) ?_ (fun hHeld => ?_)
       focus ((try dsimp only); (exact ⟨by rw [Ba_t45.cell]; rfl, by rw [Ba_t45.cell]; rfl, by rw [Bb_t45.cell]; rfl, by rw [Bb_t45.cell]; rfl, by rw [Bx_t45.cell]; rfl, by rw [Bx_t45.cell]; rfl, by rw [Bu_t45.cell]; rfl, by rw [Bu_t45.cell]; rfl, by rw [By_t45.cell]; rfl, by rw [By_t45.cell]; rfl, by rw [Bd_t45.cell]; rfl, by rw [Bd_t45.cell]; rfl, by rw [Be_t45.cell]; rfl, by rw [Be_t45.cell]; rfl⟩))
       refine tk 0 ?_
       refine tk 1 ?_
       refine tk 2 ?_
       refine tk 3 ?_
       refine tk 4 ?_
       refine tk 5 ?_
       refine tk 6 ?_
       refine tk 7 ?_
       refine tk 8 ?_
       refine tk 10 ?_
       refine tk 11 ?_
       refine tk 12 ?_
       (refine rd1 9 (fun K hK => ?_); go_simp; (go_at_call 49; refine (implVersAtO DZ d_t45 hf_D (by omega)).mono ?_; rw [HR1.out]; rintro e w8 ⟨Vr, rfl, r_n, hb8⟩; obtain ⟨adr, cr, rfl, ry1_r, ry2_r, ry3_r⟩ := r_n.read; clear ry1_r ry2_r ry3_r; have a_t47 := a_t45.next hb8; clear a_t45; have b_t47 := b_t45.next hb8; clear b_t45; have x_t47 := x_t45.next hb8; clear x_t45; have um_t47 := um_t45.next hb8; clear um_t45; have y_t47 := y_t45.next hb8; clear y_t45; have d_t47 := d_t45.next hb8; clear d_t45; have e2_t47 := e2_t45.next hb8; clear e2_t45; have Ba_t47 := Ba_t45.next hb8; clear Ba_t45; have Bb_t47 := Bb_t45.next hb8; clear Bb_t45; have Bx_t47 := Bx_t45.next hb8; clear Bx_t45; have Bu_t47 := Bu_t45.next hb8; clear Bu_t45; have By_t47 := By_t45.next hb8; clear By_t45; have Bd_t47 := Bd_t45.next hb8; clear Bd_t45; have Be_t47 := Be_t45.next hb8; clear Be_t45; have hw_t47 := below_next hw_t45 hb8; have hs_t47 := hb8.size; have lw0_t48 := below_next lw0_t46 hb8); go_wp2_with fail; refine hK.out _ _ ?_ (fun hHeld => ?_); (focus ((try dsimp only); (exact ⟨by rw [Ba_t47.cell]; rfl, by rw [Ba_t47.cell]; rfl, by rw [Bb_t47.cell]; rfl, by rw [Bb_t47.cell]; rfl, by rw [Bx_t47.cell]; rfl, by rw [Bx_t47.cell]; rfl, by rw [Bu_t47.cell]; rfl, by rw [Bu_t47.cell]; rfl, by rw [By_t47.cell]; rfl, by rw [By_t47.cell]; rfl, by rw [Bd_t47.cell]; rfl, by rw [Bd_t47.cell]; rfl, by rw [Be_t47.cell]; rfl, by rw [Be_t47.cell]; rfl⟩))); clear hK K; (try simp only [Act.put, pa, pb, pc]))
       (refine rd1 13 (fun K hK => ?_); go_simp; (go_at_call 49; refine (implVersAtO EZ e2_t47 hf_E (by omega)).mono ?_; rw [HR2.out]; rintro e w9 ⟨Vq, rfl, q_n, hb9⟩; obtain ⟨adq, cq, rfl, ry1_q, ry2_q, ry3_q⟩ := q_n.read; clear ry1_q ry2_q ry3_q; have a_t49 := a_t47.next hb9; clear a_t47; have b_t49 := b_t47.next hb9; clear b_t47; have x_t49 := x_t47.next hb9; clear x_t47; have um_t49 := um_t47.next hb9; clear um_t47; have y_t49 := y_t47.next hb9; clear y_t47; have d_t49 := d_t47.next hb9; clear d_t47; have e2_t49 := e2_t47.next hb9; clear e2_t47; have r_t49 := r_n.next hb9; clear r_n; have Ba_t49 := Ba_t47.next hb9; clear Ba_t47; have Bb_t49 := Bb_t47.next hb9; clear Bb_t47; have Bx_t49 := Bx_t47.next hb9; clear Bx_t47; have Bu_t49 := Bu_t47.next hb9; clear Bu_t47; have By_t49 := By_t47.next hb9; clear By_t47; have Bd_t49 := Bd_t47.next hb9; clear Bd_t47; have Be_t49 := Be_t47.next hb9; clear Be_t47; have hw_t49 := below_next hw_t47 hb9; have hs_t49 := hb9.size; have lw0_t50 := below_next lw0_t48 hb9); go_wp2_with fail; refine hK.out _ _ ?_ (fun hHeld => ?_); (focus ((try dsimp only); (exact ⟨by rw [Ba_t49.cell]; rfl, by rw [Ba_t49.cell]; rfl, by rw [Bb_t49.cell]; rfl, by rw [Bb_t49.cell]; rfl, by rw [Bx_t49.cell]; rfl, by rw [Bx_t49.cell]; rfl, by rw [Bu_t49.cell]; rfl, by rw [Bu_t49.cell]; rfl, by rw [By_t49.cell]; rfl, by rw [By_t49.cell]; rfl, by rw [Bd_t49.cell]; rfl, by rw [Bd_t49.cell]; rfl, by rw [Be_t49.cell]; rfl, by rw [Be_t49.cell]; rfl⟩))); clear hK K; (try simp only [Act.put, pa, pb, pc]))
       (refine rd1 14 (fun K hK => ?_); go_simp; (go_at_call 43; refine (wpO r_t49 q_n (by omega) (by omega)).mono ?_; rintro e w10 ⟨rfl, hb10⟩; rw [eqL_yes rfl]; have a_t51 := a_t49.next hb10; clear a_t49; have b_t51 := b_t49.next hb10; clear b_t49; have x_t51 := x_t49.next hb10; clear x_t49; have um_t51 := um_t49.next hb10; clear um_t49; have y_t51 := y_t49.next hb10; clear y_t49; have d_t51 := d_t49.next hb10; clear d_t49; have e2_t51 := e2_t49.next hb10; clear e2_t49; have r_t51 := r_t49.next hb10; clear r_t49; have q_t51 := q_n.next hb10; clear q_n; have Ba_t51 := Ba_t49.next hb10; clear Ba_t49; have Bb_t51 := Bb_t49.next hb10; clear Bb_t49; have Bx_t51 := Bx_t49.next hb10; clear Bx_t49; have Bu_t51 := Bu_t49.next hb10; clear Bu_t49; have By_t51 := By_t49.next hb10; clear By_t49; have Bd_t51 := Bd_t49.next hb10; clear Bd_t49; have Be_t51 := Be_t49.next hb10; clear Be_t49; have hw_t51 := below_next hw_t49 hb10; have hs_t51 := hb10.size; have lw0_t52 := below_next lw0_t50 hb10); go_wp2_with fail; refine hK.out _ _ ?_ (fun hHeld => ?_); (focus ((try dsimp only); (exact ⟨by rw [Ba_t51.cell]; rfl, by rw [Ba_t51.cell]; rfl, by rw [Bb_t51.cell]; rfl, by rw [Bb_t51.cell]; rfl, by rw [Bx_t51.cell]; rfl, by rw [Bx_t51.cell]; rfl, by rw [Bu_t51.cell]; rfl, by rw [Bu_t51.cell]; rfl, by rw [By_t51.cell]; rfl, by rw [By_t51.cell]; rfl, by rw [Bd_t51.cell]; rfl, by rw [Bd_t51.cell]; rfl, by rw [Be_t51.cell]; rfl, by rw [Be_t51.cell]; rfl⟩))); clear hK K; (try simp only [Act.put, pa, pb, pc]))
       refine tk 15 ?_
       refine tk 16 ?_
       refine wpAnyH_done (by kernel_rfl) ?_ _
       have qBa0 : w10.cell? ⟨w1.heap.size, 0, none⟩ = some (.int .i64 za) := by rw [Ba_t51.cell]; rfl
       have qBa1 : w10.cell? ⟨w1.heap.size, 1, none⟩ = some (.slice ada la.length ca) := by rw [Ba_t51.cell]; rfl
       have qBb0 : w10.cell? ⟨w1.heap.size + 1, 0, none⟩ = some (.int .i64 ab) := by rw [Bb_t51.cell]; rfl
       have qBb1 : w10.cell? ⟨w1.heap.size + 1, 1, none⟩ = some (.slice adb lb.length cb) := by rw [Bb_t51.cell]; rfl
       have qBx0 : w10.cell? ⟨w2.heap.size, 0, none⟩ = some (.int .i64 RZ) := by rw [Bx_t51.cell]; rfl
       have qBx1 : w10.cell? ⟨w2.heap.size, 1, none⟩ = some (.slice adx RL.length cx) := by rw [Bx_t51.cell]; rfl
       have qBu0 : w10.cell? ⟨w4.heap.size + 1, 0, none⟩ = some (.int .i64 ab) := by rw [Bu_t51.cell]; rfl
       have qBu1 : w10.cell? ⟨w4.heap.size + 1, 1, none⟩ = some (.slice adum xm.length cum) := by rw [Bu_t51.cell]; rfl
       have qBy0 : w10.cell? ⟨w5.heap.size, 0, none⟩ = some (.int .i64 YZ) := by rw [By_t51.cell]; rfl
       have qBy1 : w10.cell? ⟨w5.heap.size, 1, none⟩ = some (.slice ady YL.length cy) := by rw [By_t51.cell]; rfl
       have qBd0 : w10.cell? ⟨w6.heap.size, 0, none⟩ = some (.int .i64 DZ) := by rw [Bd_t51.cell]; rfl
       have qBd1 : w10.cell? ⟨w6.heap.size, 1, none⟩ = some (.slice add DL.length cd) := by rw [Bd_t51.cell]; rfl
       have qBe0 : w10.cell? ⟨w7.heap.size, 0, none⟩ = some (.int .i64 EZ) := by rw [Be_t51.cell]; rfl
       have qBe1 : w10.cell? ⟨w7.heap.size, 1, none⟩ = some (.slice ade2 EL.length ce2) := by rw [Be_t51.cell]; rfl
       go_wp2
       go_ret
       exact ⟨rfl, hw_t51⟩
      ·
       have hn1_EC : (EC == 0) = false := by simp; exact he
       have hn2_EC : (EC != 0) = true := by simp; exact he
       have qBa0 : (w7.alloc (.cells #[.int .i64 EZ, .slice ade2 EL.length ce2] 34)).cell? ⟨w1.heap.size, 0, none⟩ = some (.int .i64 za) := by rw [Ba_t42.cell]; rfl
       have qBa1 : (w7.alloc (.cells #[.int .i64 EZ, .slice ade2 EL.length ce2] 34)).cell? ⟨w1.heap.size, 1, none⟩ = some (.slice ada la.length ca) := by rw [Ba_t42.cell]; rfl
       have qBb0 : (w7.alloc (.cells #[.int .i64 EZ, .slice ade2 EL.length ce2] 34)).cell? ⟨w1.heap.size + 1, 0, none⟩ = some (.int .i64 ab) := by rw [Bb_t42.cell]; rfl
       have qBb1 : (w7.alloc (.cells #[.int .i64 EZ, .slice ade2 EL.length ce2] 34)).cell? ⟨w1.heap.size + 1, 1, none⟩ = some (.slice adb lb.length cb) := by rw [Bb_t42.cell]; rfl
       have qBx0 : (w7.alloc (.cells #[.int .i64 EZ, .slice ade2 EL.length ce2] 34)).cell? ⟨w2.heap.size, 0, none⟩ = some (.int .i64 RZ) := by rw [Bx_t42.cell]; rfl
       have qBx1 : (w7.alloc (.cells #[.int .i64 EZ, .slice ade2 EL.length ce2] 34)).cell? ⟨w2.heap.size, 1, none⟩ = some (.slice adx RL.length cx) := by rw [Bx_t42.cell]; rfl
       have qBu0 : (w7.alloc (.cells #[.int .i64 EZ, .slice ade2 EL.length ce2] 34)).cell? ⟨w4.heap.size + 1, 0, none⟩ = some (.int .i64 ab) := by rw [Bu_t42.cell]; rfl
       have qBu1 : (w7.alloc (.cells #[.int .i64 EZ, .slice ade2 EL.length ce2] 34)).cell? ⟨w4.heap.size + 1, 1, none⟩ = some (.slice adum xm.length cum) := by rw [Bu_t42.cell]; rfl
       have qBy0 : (w7.alloc (.cells #[.int .i64 EZ, .slice ade2 EL.length ce2] 34)).cell? ⟨w5.heap.size, 0, none⟩ = some (.int .i64 YZ) := by rw [By_t42.cell]; rfl
       have qBy1 : (w7.alloc (.cells #[.int .i64 EZ, .slice ade2 EL.length ce2] 34)).cell? ⟨w5.heap.size, 1, none⟩ = some (.slice ady YL.length cy) := by rw [By_t42.cell]; rfl
       have qBd0 : (w7.alloc (.cells #[.int .i64 EZ, .slice ade2 EL.length ce2] 34)).cell? ⟨w6.heap.size, 0, none⟩ = some (.int .i64 DZ) := by rw [Bd_t42.cell]; rfl
       have qBd1 : (w7.alloc (.cells #[.int .i64 EZ, .slice ade2 EL.length ce2] 34)).cell? ⟨w6.heap.size, 1, none⟩ = some (.slice add DL.length cd) := by rw [Bd_t42.cell]; rfl
       have qBe0 : (w7.alloc (.cells #[.int .i64 EZ, .slice ade2 EL.length ce2] 34)).cell? ⟨w7.heap.size, 0, none⟩ = some (.int .i64 EZ) := by rw [Be_t41.cell]; rfl
       have qBe1 : (w7.alloc (.cells #[.int .i64 EZ, .slice ade2 EL.length ce2] 34)).cell? ⟨w7.heap.size, 1, none⟩ = some (.slice ade2 EL.length ce2) := by rw [Be_t41.cell]; rfl
       go_wp2
       go_ret
       exact ⟨rfl, hw_t42⟩
     ·
      have hn1_DC : (DC == 0) = false := by simp; exact hd
      have hn2_DC : (DC != 0) = true := by simp; exact hd
      have qBa0 : (w7.alloc (.cells #[.int .i64 EZ, .slice ade2 EL.length ce2] 34)).cell? ⟨w1.heap.size, 0, none⟩ = some (.int .i64 za) := by rw [Ba_t42.cell]; rfl
      have qBa1 : (w7.alloc (.cells #[.int .i64 EZ, .slice ade2 EL.length ce2] 34)).cell? ⟨w1.heap.size, 1, none⟩ = some (.slice ada la.length ca) := by rw [Ba_t42.cell]; rfl
      have qBb0 : (w7.alloc (.cells #[.int .i64 EZ, .slice ade2 EL.length ce2] 34)).cell? ⟨w1.heap.size + 1, 0, none⟩ = some (.int .i64 ab) := by rw [Bb_t42.cell]; rfl
      have qBb1 : (w7.alloc (.cells #[.int .i64 EZ, .slice ade2 EL.length ce2] 34)).cell? ⟨w1.heap.size + 1, 1, none⟩ = some (.slice adb lb.length cb) := by rw [Bb_t42.cell]; rfl
      have qBx0 : (w7.alloc (.cells #[.int .i64 EZ, .slice ade2 EL.length ce2] 34)).cell? ⟨w2.heap.size, 0, none⟩ = some (.int .i64 RZ) := by rw [Bx_t42.cell]; rfl
      have qBx1 : (w7.alloc (.cells #[.int .i64 EZ, .slice ade2 EL.length ce2] 34)).cell? ⟨w2.heap.size, 1, none⟩ = some (.slice adx RL.length cx) := by rw [Bx_t42.cell]; rfl
      have qBu0 : (w7.alloc (.cells #[.int .i64 EZ, .slice ade2 EL.length ce2] 34)).cell? ⟨w4.heap.size + 1, 0, none⟩ = some (.int .i64 ab) := by rw [Bu_t42.cell]; rfl
      have qBu1 : (w7.alloc (.cells #[.int .i64 EZ, .slice ade2 EL.length ce2] 34)).cell? ⟨w4.heap.size + 1, 1, none⟩ = some (.slice adum xm.length cum) := by rw [Bu_t42.cell]; rfl
      have qBy0 : (w7.alloc (.cells #[.int .i64 EZ, .slice ade2 EL.length ce2] 34)).cell? ⟨w5.heap.size, 0, none⟩ = some (.int .i64 YZ) := by rw [By_t42.cell]; rfl
      have qBy1 : (w7.alloc (.cells #[.int .i64 EZ, .slice ade2 EL.length ce2] 34)).cell? ⟨w5.heap.size, 1, none⟩ = some (.slice ady YL.length cy) := by rw [By_t42.cell]; rfl
      have qBd0 : (w7.alloc (.cells #[.int .i64 EZ, .slice ade2 EL.length ce2] 34)).cell? ⟨w6.heap.size, 0, none⟩ = some (.int .i64 DZ) := by rw [Bd_t42.cell]; rfl
      have qBd1 : (w7.alloc (.cells #[.int .i64 EZ, .slice ade2 EL.length ce2] 34)).cell? ⟨w6.heap.size, 1, none⟩ = some (.slice add DL.length cd) := by rw [Bd_t42.cell]; rfl
      have qBe0 : (w7.alloc (.cells #[.int .i64 EZ, .slice ade2 EL.length ce2] 34)).cell? ⟨w7.heap.size, 0, none⟩ = some (.int .i64 EZ) := by rw [Be_t41.cell]; rfl
      have qBe1 : (w7.alloc (.cells #[.int .i64 EZ, .slice ade2 EL.length ce2] 34)).cell? ⟨w7.heap.size, 1, none⟩ = some (.slice ade2 EL.length ce2) := by rw [Be_t41.cell]; rfl
      go_wp2
      go_ret
      exact ⟨rfl, hw_t42⟩
    ·
     have hn1_YC : (YC == 0) = false := by simp; exact hy
     have hn2_YC : (YC != 0) = true := by simp; exact hy
     have qBa0 : (w7.alloc (.cells #[.int .i64 EZ, .slice ade2 EL.length ce2] 34)).cell? ⟨w1.heap.size, 0, none⟩ = some (.int .i64 za) := by rw [Ba_t42.cell]; rfl
     have qBa1 : (w7.alloc (.cells #[.int .i64 EZ, .slice ade2 EL.length ce2] 34)).cell? ⟨w1.heap.size, 1, none⟩ = some (.slice ada la.length ca) := by rw [Ba_t42.cell]; rfl
     have qBb0 : (w7.alloc (.cells #[.int .i64 EZ, .slice ade2 EL.length ce2] 34)).cell? ⟨w1.heap.size + 1, 0, none⟩ = some (.int .i64 ab) := by rw [Bb_t42.cell]; rfl
     have qBb1 : (w7.alloc (.cells #[.int .i64 EZ, .slice ade2 EL.length ce2] 34)).cell? ⟨w1.heap.size + 1, 1, none⟩ = some (.slice adb lb.length cb) := by rw [Bb_t42.cell]; rfl
     have qBx0 : (w7.alloc (.cells #[.int .i64 EZ, .slice ade2 EL.length ce2] 34)).cell? ⟨w2.heap.size, 0, none⟩ = some (.int .i64 RZ) := by rw [Bx_t42.cell]; rfl
     have qBx1 : (w7.alloc (.cells #[.int .i64 EZ, .slice ade2 EL.length ce2] 34)).cell? ⟨w2.heap.size, 1, none⟩ = some (.slice adx RL.length cx) := by rw [Bx_t42.cell]; rfl
     have qBu0 : (w7.alloc (.cells #[.int .i64 EZ, .slice ade2 EL.length ce2] 34)).cell? ⟨w4.heap.size + 1, 0, none⟩ = some (.int .i64 ab) := by rw [Bu_t42.cell]; rfl
     have qBu1 : (w7.alloc (.cells #[.int .i64 EZ, .slice ade2 EL.length ce2] 34)).cell? ⟨w4.heap.size + 1, 1, none⟩ = some (.slice adum xm.length cum) := by rw [Bu_t42.cell]; rfl
     have qBy0 : (w7.alloc (.cells #[.int .i64 EZ, .slice ade2 EL.length ce2] 34)).cell? ⟨w5.heap.size, 0, none⟩ = some (.int .i64 YZ) := by rw [By_t42.cell]; rfl
     have qBy1 : (w7.alloc (.cells #[.int .i64 EZ, .slice ade2 EL.length ce2] 34)).cell? ⟨w5.heap.size, 1, none⟩ = some (.slice ady YL.length cy) := by rw [By_t42.cell]; rfl
     have qBd0 : (w7.alloc (.cells #[.int .i64 EZ, .slice ade2 EL.length ce2] 34)).cell? ⟨w6.heap.size, 0, none⟩ = some (.int .i64 DZ) := by rw [Bd_t42.cell]; rfl
     have qBd1 : (w7.alloc (.cells #[.int .i64 EZ, .slice ade2 EL.length ce2] 34)).cell? ⟨w6.heap.size, 1, none⟩ = some (.slice add DL.length cd) := by rw [Bd_t42.cell]; rfl
     have qBe0 : (w7.alloc (.cells #[.int .i64 EZ, .slice ade2 EL.length ce2] 34)).cell? ⟨w7.heap.size, 0, none⟩ = some (.int .i64 EZ) := by rw [Be_t41.cell]; rfl
     have qBe1 : (w7.alloc (.cells #[.int .i64 EZ, .slice ade2 EL.length ce2] 34)).cell? ⟨w7.heap.size, 1, none⟩ = some (.slice ade2 EL.length ce2) := by rw [Be_t41.cell]; rfl
     go_wp2
     go_ret
     exact ⟨rfl, hw_t42⟩
 ·
  have hn1_RC : (RC == 0) = false := by simp; exact hc
  have hn2_RC : (RC != 0) = true := by simp; exact hc
  have qBa0 : (w3.alloc (.cells #[.int .i64 RZ, .slice ady RL.length cy] 34)).cell? ⟨w1.heap.size, 0, none⟩ = some (.int .i64 za) := by rw [Ba_t17.cell]; rfl
  have qBa1 : (w3.alloc (.cells #[.int .i64 RZ, .slice ady RL.length cy] 34)).cell? ⟨w1.heap.size, 1, none⟩ = some (.slice ada la.length ca) := by rw [Ba_t17.cell]; rfl
  have qBb0 : (w3.alloc (.cells #[.int .i64 RZ, .slice ady RL.length cy] 34)).cell? ⟨w1.heap.size + 1, 0, none⟩ = some (.int .i64 ab) := by rw [Bb_t17.cell]; rfl
  have qBb1 : (w3.alloc (.cells #[.int .i64 RZ, .slice ady RL.length cy] 34)).cell? ⟨w1.heap.size + 1, 1, none⟩ = some (.slice adb lb.length cb) := by rw [Bb_t17.cell]; rfl
  have qBx0 : (w3.alloc (.cells #[.int .i64 RZ, .slice ady RL.length cy] 34)).cell? ⟨w2.heap.size, 0, none⟩ = some (.int .i64 RZ) := by rw [Bx_t17.cell]; rfl
  have qBx1 : (w3.alloc (.cells #[.int .i64 RZ, .slice ady RL.length cy] 34)).cell? ⟨w2.heap.size, 1, none⟩ = some (.slice adx RL.length cx) := by rw [Bx_t17.cell]; rfl
  go_wp2
  go_ret
  exact ⟨rfl, hw_t17⟩

set_option maxRecDepth 100000 in
theorem lifted (os : Os) (started : os.Started) (H : Type) (enc : TypeId × Value → H) :
  ReturnsInHanded {} Tryz.checked os 10 .any (Rows.fnWorkApartSpec.pre6 enc Tryz.prog Tryz.f10 Rows.fnWorkApartRow.domain false) (Rows.fnWorkApartSpec.post enc Tryz.prog Tryz.f10 false true false false) := by
 refine returnsInHanded_of_change (C := Tryz.checked) Whole.own started (by kernel_rfl) Tryz.func10
  (ChangeSpec.witness6 (enc := enc) (C := Tryz.checked) false ⟨#[], #[.slice none 0 0, .slice none 0 0], []⟩ 8 (by kernel_rfl) (by kernel_rfl) (by kernel_rfl) (by kernel_rfl)) ?_
 intro W base args ds gs before hval0 hW hcnd _
 have hval : ∀ (j : Nat) t v, Tryz.f10.params[j]? = some t → args[j]? = some v → Value.okWide Tryz.prog W .any base t v := hval0
 have hW' := hW
 obtain ⟨p, q, hA0, hV, rfl, hfz, hnd⟩ := hW
 have hA : DataW.TrodAll enc Tryz.prog W 0 (fun _ => true) true Tryz.f10.params.toList args.toList ds p := hA0
 rw [Tryz.params10] at hA hval
 obtain ⟨v0, vs0, d0, ds0, p0, q0, hargs, rfl, rfl, h0, r0⟩ := trodAll_cons hA
 obtain ⟨v1, vs1, d1, ds1, p1, q1, rfl, rfl, rfl, h1, r1⟩ := trodAll_cons r0
 obtain ⟨rfl, rfl, rfl⟩ := trodAll_nil r1
 obtain rfl : args = #[v0, v1] := by cases args; simp_all
 obtain ⟨rfl, rfl⟩ := trodVars_none hV
 have k0 := h0
 have lt0 : ∀ x ∈ p0, x.block < W.heap.size := by obtain ⟨m, hm⟩ := k0; exact DataW.trod_lt m _ _ _ hm
 obtain ⟨A0, n0, c0, rfl, hc0, hm0, hr0⟩ := openBytes (hval 0 57 v0 rfl rfl) h0
 have k1 := h1
 have lt1 : ∀ x ∈ p1, x.block < W.heap.size := by obtain ⟨m, hm⟩ := k1; exact DataW.trod_lt m _ _ _ hm
 obtain ⟨A1, n1, c1, rfl, hc1, hm1, hr1⟩ := openBytes (hval 1 57 v1 rfl rfl) h1
 clear hA0 hval0
 refine (walk A0 n0 c0 A1 n1 c1 W hc0 hm0 hr0 hc1 hm1 hr1).mono fun e W' ⟨he, bel⟩ => ?_
 subst he
 exact ⟨_, rfl, _, _, _, [], _, [], hW', trodAll_mk1 (shut_bool Tryz.underlying4 _), (trodAll_cons_mk (Below.trod Whole.laidOut (by kernel_rfl) (of_decide_eq_true (by kernel_rfl)) k0 bel lt0) (trodAll_cons_mk (Below.trod Whole.laidOut (by kernel_rfl) (of_decide_eq_true (by kernel_rfl)) k1 bel lt1) trodAll_mk0)), rfl, bel.frame _, fun h => by cases h⟩

theorem named : Tryz.prog.funcNamed Rows.fnWorkApartRow.func = some 10 := by kernel_rfl
theorem closed : Whole.lawFacts Tryz.prog 10 Tryz.f10 Rows.fnWorkApartSpec Rows.fnWorkApartRow = true := by kernel_rfl
theorem inst : Tryz.f10.isInstance Tryz.prog Rows.fnWorkApartRow.origin Rows.fnWorkApartRow.targs := of_decide_eq_true (by kernel_rfl)
theorem wrap : Tryz.f10.isWrapper Tryz.prog Rows.fnWorkApartRow.wrapper Rows.fnWorkApartRow.mainSum := by
 unfold Func.isWrapper; first | (rw [if_pos (by decide +kernel)]; kernel_rfl) | (rw [if_neg (by decide +kernel)]; exact ⟨rfl, rfl⟩)
theorem over : Rows.fnWorkApartRow.holds Tryz.pinned (OpenSpec.ofChange Rows.fnWorkApartSpec) :=
 OpenClaim.holds_of_wide 10 Tryz.f10 rfl rfl rfl rfl rfl rfl rfl ⟨rfl, rfl, rfl, rfl, rfl⟩ rfl rfl rfl rfl rfl named Tryz.func10 (Whole.facts_of closed)
  inst wrap (fun os started H enc _ => lifted os started H enc)

theorem proved : Rows.FnWorkApartSaid := over
#print axioms proved
end Go.Proofs.YtbeklnhngjmpiaaGreat.fnWorkApart
