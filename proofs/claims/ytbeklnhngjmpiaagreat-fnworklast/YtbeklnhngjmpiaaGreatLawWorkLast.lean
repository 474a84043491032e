/- The law FnWorkLast: for every two codes that are drawn from, one who is late stays late whatever others do, as in the model: for all inputs the call returns true, and the arguments read afterwards as before. No conditions. -/
import Derived.Test.YtbeklnhngjmpiaaGreatRows
import Derived.Test.YtbeklnhngjmpiaaGreatWhole
import Derived.Test.YtbeklnhngjmpiaaGreatA1
import Derived.Test.YtbeklnhngjmpiaaGreatA4
import Derived.Test.YtbeklnhngjmpiaaGreatDw3
import Derived.Test.YtbeklnhngjmpiaaGreatW3r
import Derived.Test.YtbeklnhngjmpiaaGreatX3h
import Derived.WalkKit
import Derived.ProofKit
import Derived.OpenShut
import Derived.ShutString
import Derived.ChangeOld
import Derived.Below
namespace Go.Proofs.YtbeklnhngjmpiaaGreat.fnWorkLast
open Go.ChangeShapes Go.WideShapes Go.ChangeAt Go.RowKit
open Go.ChangeMaps (open_string shut_string)
set_option linter.unusedVariables false

set_option maxRecDepth 100000 in
set_option maxHeartbeats 1000000 in
theorem walk (A0 : Option Addr) (n0 c0 : Nat) (A1 : Option Addr) (n1 c1 : Nat) (w : World) (hc0 : n0 ≤ c0) (hm0 : c0 ≤ maxLen) (hr0 : RdB w w.heap.size A0 n0) (hc1 : n1 ≤ c1) (hm1 : c1 ≤ maxLen) (hr1 : RdB w w.heap.size A1 n1) :
  Calls Tryz.prog 15 #[.slice A0 n0 c0, .slice A1 n1 c1] w fun e w' => e = .returned (.bool true) ∧ Below w.heap.size w w' := by
 by_cases hn_n0 : (1048576 : Int) < (n0 : Int)
 ·
  go_enter Tryz.func15, Tryz.ntmps15
  go_wp2
  go_ret
  exact ⟨rfl, Below.refl _ _⟩
 by_cases hn_n1 : (1048576 : Int) < (n1 : Int)
 ·
  go_enter Tryz.func15, Tryz.ntmps15
  go_wp2
  go_ret
  exact ⟨rfl, Below.refl _ _⟩
 go_enter Tryz.func15, Tryz.ntmps15
 go_wp2_with fail
 refine (drawWorkEnd A0 n0 c0 w hc0 hm0 hr0).mono ?_
 rintro e w1 ⟨za, Va, la, ab, Vb, lb, rfl, a_n, hfa, hza, hla, b_n, hfb, hab, hlb, hb1⟩
 obtain ⟨ada, ca, rfl, ry1_a, ry2_a, ry3_a⟩ := a_n.read
 clear ry1_a ry2_a ry3_a
 obtain ⟨adb, cb, rfl, ry1_b, ry2_b, ry3_b⟩ := b_n.read
 clear ry1_b ry2_b ry3_b
 have hw_t1 := hb1
 have hs_t1 := hb1.size
 have hb_t3 := below_alloc (Below.refl _ w1) (.cells #[.int .i64 za, .slice ada la.length ca] 34)
 have Ba_t3 := blkA w1 #[.int .i64 za, .slice ada la.length ca] 34
 have hz_t3 : (w1.alloc (.cells #[.int .i64 za, .slice ada la.length ca] 34)).heap.size = w1.heap.size + 1 := World.size_alloc _ _
 have a_t4 := a_n.next hb_t3
 clear a_n
 have b_t4 := b_n.next hb_t3
 clear b_n
 have hw_t4 := below_next hw_t1 hb_t3
 have hs_t4 := hb_t3.size
 have hb_t6 := below_alloc (Below.refl _ (w1.alloc (.cells #[.int .i64 za, .slice ada la.length ca] 34))) (.cells #[.int .i64 ab, .slice adb lb.length cb] 38)
 have Bb_t6 := blkA (w1.alloc (.cells #[.int .i64 za, .slice ada la.length ca] 34)) #[.int .i64 ab, .slice adb lb.length cb] 38
 simp only [World.size_alloc] at Bb_t6
 have hz_t6 : ((w1.alloc (.cells #[.int .i64 za, .slice ada la.length ca] 34)).alloc (.cells #[.int .i64 ab, .slice adb lb.length cb] 38)).heap.size = (w1.alloc (.cells #[.int .i64 za, .slice ada la.length ca] 34)).heap.size + 1 := World.size_alloc _ _
 have a_t7 := a_t4.next hb_t6
 clear a_t4
 have b_t7 := b_t4.next hb_t6
 clear b_t4
 have Ba_t7 := Ba_t3.next hb_t6
 clear Ba_t3
 have hw_t7 := below_next hw_t4 hb_t6
 have hs_t7 := hb_t6.size
 have qBa0 : ((w1.alloc (.cells #[.int .i64 za, .slice ada la.length ca] 34)).alloc (.cells #[.int .i64 ab, .slice adb lb.length cb] 38)).cell? ⟨w1.heap.size, 0, none⟩ = some (.int .i64 za) := by rw [Ba_t7.cell]; rfl
 have qBa1 : ((w1.alloc (.cells #[.int .i64 za, .slice ada la.length ca] 34)).alloc (.cells #[.int .i64 ab, .slice adb lb.length cb] 38)).cell? ⟨w1.heap.size, 1, none⟩ = some (.slice ada la.length ca) := by rw [Ba_t7.cell]; rfl
 have qBb0 : ((w1.alloc (.cells #[.int .i64 za, .slice ada la.length ca] 34)).alloc (.cells #[.int .i64 ab, .slice adb lb.length cb] 38)).cell? ⟨w1.heap.size + 1, 0, none⟩ = some (.int .i64 ab) := by rw [Bb_t6.cell]; rfl
 have qBb1 : ((w1.alloc (.cells #[.int .i64 za, .slice ada la.length ca] 34)).alloc (.cells #[.int .i64 ab, .slice adb lb.length cb] 38)).cell? ⟨w1.heap.size + 1, 1, none⟩ = some (.slice adb lb.length cb) := by rw [Bb_t6.cell]; rfl
 go_wp2_with fail
 clear qBa0 qBa1 qBb0 qBb1
 refine (drawVersDo A1 n1 c1 _ hc1 hm1 (hr1.next hw_t7)).mono ?_
 rintro e w2 ⟨zm, Vm, lm, Um, xm, rfl, m_n, hfm, hzm, hlm, um_n, hfxm, hlxm, hb2⟩
 obtain ⟨adm, cm, rfl, ry1_m, ry2_m, ry3_m⟩ := m_n.read
 clear ry1_m ry2_m ry3_m
 obtain ⟨adum, cum, rfl, ry1_um, ry2_um, ry3_um⟩ := um_n.read
 clear ry1_um ry2_um ry3_um
 have a_t9 := a_t7.next hb2
 clear a_t7
 have b_t9 := b_t7.next hb2
 clear b_t7
 have Ba_t9 := Ba_t7.next hb2
 clear Ba_t7
 have Bb_t9 := Bb_t6.next hb2
 clear Bb_t6
 have hw_t9 := below_next hw_t7 hb2
 have hs_t9 := hb2.size
 have hb_t11 := below_alloc (Below.refl _ w2) (.cells #[.int .i64 zm, .slice adm lm.length cm] 34)
 have Bm_t11 := blkA w2 #[.int .i64 zm, .slice adm lm.length cm] 34
 have hz_t11 : (w2.alloc (.cells #[.int .i64 zm, .slice adm lm.length cm] 34)).heap.size = w2.heap.size + 1 := World.size_alloc _ _
 have a_t12 := a_t9.next hb_t11
 clear a_t9
 have b_t12 := b_t9.next hb_t11
 clear b_t9
 have m_t12 := m_n.next hb_t11
 clear m_n
 have um_t12 := um_n.next hb_t11
 clear um_n
 have Ba_t12 := Ba_t9.next hb_t11
 clear Ba_t9
 have Bb_t12 := Bb_t9.next hb_t11
 clear Bb_t9
 have hw_t12 := below_next hw_t9 hb_t11
 have hs_t12 := hb_t11.size
 clear m_t12
 have hel := endL_length za la ab lb (by omega)
 obtain ⟨RZ, RL, RC, HRR⟩ : ∃ RZ RL RC, Hid (endZ za la ab lb = RZ ∧ endL za la ab lb = RL ∧ endC za la ab lb = RC) := ⟨_, _, _, Lib.hid ⟨rfl, rfl, rfl⟩⟩
 rw [HRR.out.2.1] at hel
 have qBa0 : (w2.alloc (.cells #[.int .i64 zm, .slice adm lm.length cm] 34)).cell? ⟨w1.heap.size, 0, none⟩ = some (.int .i64 za) := by rw [Ba_t12.cell]; rfl
 have qBa1 : (w2.alloc (.cells #[.int .i64 zm, .slice adm lm.length cm] 34)).cell? ⟨w1.heap.size, 1, none⟩ = some (.slice ada la.length ca) := by rw [Ba_t12.cell]; rfl
 have qBb0 : (w2.alloc (.cells #[.int .i64 zm, .slice adm lm.length cm] 34)).cell? ⟨w1.heap.size + 1, 0, none⟩ = some (.int .i64 ab) := by rw [Bb_t12.cell]; rfl
 have qBb1 : (w2.alloc (.cells #[.int .i64 zm, .slice adm lm.length cm] 34)).cell? ⟨w1.heap.size + 1, 1, none⟩ = some (.slice adb lb.length cb) := by rw [Bb_t12.cell]; rfl
 go_wp2_with fail
 clear qBa0 qBa1 qBb0 qBb1
 refine (implWorkEndO a_t12 b_t12 hfa hfb (by omega) (by omega)).mono ?_
 rw [HRR.out.1, HRR.out.2.1, HRR.out.2.2]
 rintro e w3 ⟨Vx, rfl, x_n, hb3⟩
 obtain ⟨adx, cx, rfl, ry1_x, ry2_x, ry3_x⟩ := x_n.read
 clear ry1_x ry2_x ry3_x
 have a_t14 := a_t12.next hb3
 clear a_t12
 have b_t14 := b_t12.next hb3
 clear b_t12
 have um_t14 := um_t12.next hb3
 clear um_t12
 have Ba_t14 := Ba_t12.next hb3
 clear Ba_t12
 have Bb_t14 := Bb_t12.next hb3
 clear Bb_t12
 have hw_t14 := below_next hw_t12 hb3
 have hs_t14 := hb3.size
 have hb_t16 := below_alloc (Below.refl _ w3) (.cells #[.int .i64 RZ, .slice adx RL.length cx] 34)
 have Bx_t16 := blkA w3 #[.int .i64 RZ, .slice adx RL.length cx] 34
 have hz_t16 : (w3.alloc (.cells #[.int .i64 RZ, .slice adx RL.length cx] 34)).heap.size = w3.heap.size + 1 := World.size_alloc _ _
 have a_t17 := a_t14.next hb_t16
 clear a_t14
 have b_t17 := b_t14.next hb_t16
 clear b_t14
 have um_t17 := um_t14.next hb_t16
 clear um_t14
 have x_t17 := x_n.next hb_t16
 clear x_n
 have Ba_t17 := Ba_t14.next hb_t16
 clear Ba_t14
 have Bb_t17 := Bb_t14.next hb_t16
 clear Bb_t14
 have hw_t17 := below_next hw_t14 hb_t16
 have hs_t17 := hb_t16.size
 have qBa0 : (w3.alloc (.cells #[.int .i64 RZ, .slice adx RL.length cx] 34)).cell? ⟨w1.heap.size, 0, none⟩ = some (.int .i64 za) := by rw [Ba_t17.cell]; rfl
 have qBa1 : (w3.alloc (.cells #[.int .i64 RZ, .slice adx RL.length cx] 34)).cell? ⟨w1.heap.size, 1, none⟩ = some (.slice ada la.length ca) := by rw [Ba_t17.cell]; rfl
 have qBb0 : (w3.alloc (.cells #[.int .i64 RZ, .slice adx RL.length cx] 34)).cell? ⟨w1.heap.size + 1, 0, none⟩ = some (.int .i64 ab) := by rw [Bb_t17.cell]; rfl
 have qBb1 : (w3.alloc (.cells #[.int .i64 RZ, .slice adx RL.length cx] 34)).cell? ⟨w1.heap.size + 1, 1, none⟩ = some (.slice adb lb.length cb) := by rw [Bb_t17.cell]; rfl
 have qBx0 : (w3.alloc (.cells #[.int .i64 RZ, .slice adx RL.length cx] 34)).cell? ⟨w3.heap.size, 0, none⟩ = some (.int .i64 RZ) := by rw [Bx_t16.cell]; rfl
 have qBx1 : (w3.alloc (.cells #[.int .i64 RZ, .slice adx RL.length cx] 34)).cell? ⟨w3.heap.size, 1, none⟩ = some (.slice adx RL.length cx) := by rw [Bx_t16.cell]; rfl
 go_wp2_with fail
 clear qBa0 qBa1 qBb0 qBb1 qBx0 qBx1
 refine (specWorkEndO a_t17 b_t17 hfa hfb (by omega) (by omega)).mono ?_
 rw [HRR.out.1, HRR.out.2.1, HRR.out.2.2]
 rintro e w4 ⟨Vy, rfl, y_n, hb4⟩
 obtain ⟨ady, cy, rfl, ry1_y, ry2_y, ry3_y⟩ := y_n.read
 clear ry1_y ry2_y ry3_y
 have a_t19 := a_t17.next hb4
 clear a_t17
 have b_t19 := b_t17.next hb4
 clear b_t17
 have um_t19 := um_t17.next hb4
 clear um_t17
 have x_t19 := x_t17.next hb4
 clear x_t17
 have Ba_t19 := Ba_t17.next hb4
 clear Ba_t17
 have Bb_t19 := Bb_t17.next hb4
 clear Bb_t17
 have Bx_t19 := Bx_t16.next hb4
 clear Bx_t16
 have hw_t19 := below_next hw_t17 hb4
 have hs_t19 := hb4.size
 have hb_t21 := below_alloc (Below.refl _ w4) (.cells #[.int .i64 RZ, .slice ady RL.length cy] 34)
 have By_t21 := blkA w4 #[.int .i64 RZ, .slice ady RL.length cy] 34
 have hz_t21 : (w4.alloc (.cells #[.int .i64 RZ, .slice ady RL.length cy] 34)).heap.size = w4.heap.size + 1 := World.size_alloc _ _
 have a_t22 := a_t19.next hb_t21
 clear a_t19
 have b_t22 := b_t19.next hb_t21
 clear b_t19
 have um_t22 := um_t19.next hb_t21
 clear um_t19
 have x_t22 := x_t19.next hb_t21
 clear x_t19
 have y_t22 := y_n.next hb_t21
 clear y_n
 have Ba_t22 := Ba_t19.next hb_t21
 clear Ba_t19
 have Bb_t22 := Bb_t19.next hb_t21
 clear Bb_t19
 have Bx_t22 := Bx_t19.next hb_t21
 clear Bx_t19
 have hw_t22 := below_next hw_t19 hb_t21
 have hs_t22 := hb_t21.size
 clear x_t22
 clear y_t22
 have hrc : (RC != RC) = false := by simp
 have hrd : (RC == RC) = true := by simp
 by_cases hc : RC = 2
 ·
  subst hc
  clear hrc hrd
  have hbd := do_len8 (z := za) (ws := xm) hfa hfxm (by omega)
  obtain ⟨DZ, DL, DB, HDD⟩ : ∃ DZ DL DB, Hid (doZ za la xm = DZ ∧ doL za la xm = DL ∧ doB za la xm = DB) := ⟨_, _, _, Lib.hid ⟨rfl, rfl, rfl⟩⟩
  rw [HDD.out.2.1] at hbd
  obtain ⟨hDl, hfD⟩ := hbd
  have qBa0 : (w4.alloc (.cells #[.int .i64 RZ, .slice ady RL.length cy] 34)).cell? ⟨w1.heap.size, 0, none⟩ = some (.int .i64 za) := by rw [Ba_t22.cell]; rfl
  have qBa1 : (w4.alloc (.cells #[.int .i64 RZ, .slice ady RL.length cy] 34)).cell? ⟨w1.heap.size, 1, none⟩ = some (.slice ada la.length ca) := by rw [Ba_t22.cell]; rfl
  have qBb0 : (w4.alloc (.cells #[.int .i64 RZ, .slice ady RL.length cy] 34)).cell? ⟨w1.heap.size + 1, 0, none⟩ = some (.int .i64 ab) := by rw [Bb_t22.cell]; rfl
  have qBb1 : (w4.alloc (.cells #[.int .i64 RZ, .slice ady RL.length cy] 34)).cell? ⟨w1.heap.size + 1, 1, none⟩ = some (.slice adb lb.length cb) := by rw [Bb_t22.cell]; rfl
  go_wp2_with fail
  clear qBa0 qBa1 qBb0 qBb1
  refine (implVersDoO a_t22 um_t22 hfa hfxm (by omega) (by omega)).mono ?_
  rw [HDD.out.1, HDD.out.2.1, HDD.out.2.2]
  rintro e w5 ⟨Vd, rfl, d_n, hb5⟩
  obtain ⟨add, cd, rfl, ry1_d, ry2_d, ry3_d⟩ := d_n.read
  clear ry1_d ry2_d ry3_d
  have a_t24 := a_t22.next hb5
  clear a_t22
  have b_t24 := b_t22.next hb5
  clear b_t22
  have um_t24 := um_t22.next hb5
  clear um_t22
  have Ba_t24 := Ba_t22.next hb5
  clear Ba_t22
  have Bb_t24 := Bb_t22.next hb5
  clear Bb_t22
  have hw_t24 := below_next hw_t22 hb5
  have hs_t24 := hb5.size
  have hb_t26 := below_alloc (Below.refl _ w5) (.cells #[.int .i64 DZ, .slice add DL.length cd] 34)
  have Bd_t26 := blkA w5 #[.int .i64 DZ, .slice add DL.length cd] 34
  have hz_t26 : (w5.alloc (.cells #[.int .i64 DZ, .slice add DL.length cd] 34)).heap.size = w5.heap.size + 1 := World.size_alloc _ _
  have a_t27 := a_t24.next hb_t26
  clear a_t24
  have b_t27 := b_t24.next hb_t26
  clear b_t24
  have um_t27 := um_t24.next hb_t26
  clear um_t24
  have d_t27 := d_n.next hb_t26
  clear d_n
  have Ba_t27 := Ba_t24.next hb_t26
  clear Ba_t24
  have Bb_t27 := Bb_t24.next hb_t26
  clear Bb_t24
  have hw_t27 := below_next hw_t24 hb_t26
  have hs_t27 := hb_t26.size
  have htl := endL_length DZ DL ab lb (by omega)
  obtain ⟨EZ, EL, EC, HEE⟩ : ∃ EZ EL EC, Hid (endZ DZ DL ab lb = EZ ∧ endL DZ DL ab lb = EL ∧ endC DZ DL ab lb = EC) := ⟨_, _, _, Lib.hid ⟨rfl, rfl, rfl⟩⟩
  rw [HEE.out.2.1] at htl
  cases hd : DB
  ·
   subst hd
   have qBa0 : (w5.alloc (.cells #[.int .i64 DZ, .slice add DL.length cd] 34)).cell? ⟨w1.heap.size, 0, none⟩ = some (.int .i64 za) := by rw [Ba_t27.cell]; rfl
   have qBa1 : (w5.alloc (.cells #[.int .i64 DZ, .slice add DL.length cd] 34)).cell? ⟨w1.heap.size, 1, none⟩ = some (.slice ada la.length ca) := by rw [Ba_t27.cell]; rfl
   have qBb0 : (w5.alloc (.cells #[.int .i64 DZ, .slice add DL.length cd] 34)).cell? ⟨w1.heap.size + 1, 0, none⟩ = some (.int .i64 ab) := by rw [Bb_t27.cell]; rfl
   have qBb1 : (w5.alloc (.cells #[.int .i64 DZ, .slice add DL.length cd] 34)).cell? ⟨w1.heap.size + 1, 1, none⟩ = some (.slice adb lb.length cb) := by rw [Bb_t27.cell]; rfl
   have qBd0 : (w5.alloc (.cells #[.int .i64 DZ, .slice add DL.length cd] 34)).cell? ⟨w5.heap.size, 0, none⟩ = some (.int .i64 DZ) := by rw [Bd_t26.cell]; rfl
   have qBd1 : (w5.alloc (.cells #[.int .i64 DZ, .slice add DL.length cd] 34)).cell? ⟨w5.heap.size, 1, none⟩ = some (.slice add DL.length cd) := by rw [Bd_t26.cell]; rfl
   go_wp2_with fail
   clear qBa0 qBa1 qBb0 qBb1 qBd0 qBd1
   refine (implWorkEndO d_t27 b_t27 hfD hfb (by omega) (by omega)).mono ?_
   rw [HEE.out.1, HEE.out.2.1, HEE.out.2.2]
   rintro e w6 ⟨Vt, rfl, t_n, hb6⟩
   obtain ⟨adt, ct, rfl, ry1_t, ry2_t, ry3_t⟩ := t_n.read
   clear ry1_t ry2_t ry3_t
   have a_t29 := a_t27.next hb6
   clear a_t27
   have b_t29 := b_t27.next hb6
   clear b_t27
   have um_t29 := um_t27.next hb6
   clear um_t27
   have d_t29 := d_t27.next hb6
   clear d_t27
   have Ba_t29 := Ba_t27.next hb6
   clear Ba_t27
   have Bb_t29 := Bb_t27.next hb6
   clear Bb_t27
   have Bd_t29 := Bd_t26.next hb6
   clear Bd_t26
   have hw_t29 := below_next hw_t27 hb6
   have hs_t29 := hb6.size
   have hb_t31 := below_alloc (Below.refl _ w6) (.cells #[.int .i64 EZ, .slice adt EL.length ct] 34)
   have Bt_t31 := blkA w6 #[.int .i64 EZ, .slice adt EL.length ct] 34
   have hz_t31 : (w6.alloc (.cells #[.int .i64 EZ, .slice adt EL.length ct] 34)).heap.size = w6.heap.size + 1 := World.size_alloc _ _
   have a_t32 := a_t29.next hb_t31
   clear a_t29
   have b_t32 := b_t29.next hb_t31
   clear b_t29
   have um_t32 := um_t29.next hb_t31
   clear um_t29
   have d_t32 := d_t29.next hb_t31
   clear d_t29
   have t_t32 := t_n.next hb_t31
   clear t_n
   have Ba_t32 := Ba_t29.next hb_t31
   clear Ba_t29
   have Bb_t32 := Bb_t29.next hb_t31
   clear Bb_t29
   have Bd_t32 := Bd_t29.next hb_t31
   clear Bd_t29
   have hw_t32 := below_next hw_t29 hb_t31
   have hs_t32 := hb_t31.size
   have qBa0 : (w6.alloc (.cells #[.int .i64 EZ, .slice adt EL.length ct] 34)).cell? ⟨w1.heap.size, 0, none⟩ = some (.int .i64 za) := by rw [Ba_t32.cell]; rfl
   have qBa1 : (w6.alloc (.cells #[.int .i64 EZ, .slice adt EL.length ct] 34)).cell? ⟨w1.heap.size, 1, none⟩ = some (.slice ada la.length ca) := by rw [Ba_t32.cell]; rfl
   have qBb0 : (w6.alloc (.cells #[.int .i64 EZ, .slice adt EL.length ct] 34)).cell? ⟨w1.heap.size + 1, 0, none⟩ = some (.int .i64 ab) := by rw [Bb_t32.cell]; rfl
   have qBb1 : (w6.alloc (.cells #[.int .i64 EZ, .slice adt EL.length ct] 34)).cell? ⟨w1.heap.size + 1, 1, none⟩ = some (.slice adb lb.length cb) := by rw [Bb_t32.cell]; rfl
   have qBd0 : (w6.alloc (.cells #[.int .i64 EZ, .slice adt EL.length ct] 34)).cell? ⟨w5.heap.size, 0, none⟩ = some (.int .i64 DZ) := by rw [Bd_t32.cell]; rfl
   have qBd1 : (w6.alloc (.cells #[.int .i64 EZ, .slice adt EL.length ct] 34)).cell? ⟨w5.heap.size, 1, none⟩ = some (.slice add DL.length cd) := by rw [Bd_t32.cell]; rfl
   have qBt0 : (w6.alloc (.cells #[.int .i64 EZ, .slice adt EL.length ct] 34)).cell? ⟨w6.heap.size, 0, none⟩ = some (.int .i64 EZ) := by rw [Bt_t31.cell]; rfl
   have qBt1 : (w6.alloc (.cells #[.int .i64 EZ, .slice adt EL.length ct] 34)).cell? ⟨w6.heap.size, 1, none⟩ = some (.slice adt EL.length ct) := by rw [Bt_t31.cell]; rfl
   go_wp2
   go_ret
   exact ⟨rfl, hw_t32⟩
  ·
   subst hd
   have e : EC = 2 := by
    have h := late_last HRR.out.2.2 HDD.out.2.2
    rw [HDD.out.1, HDD.out.2.1, HEE.out.2.2] at h
    exact h
   subst e
   have qBa0 : (w5.alloc (.cells #[.int .i64 DZ, .slice add DL.length cd] 34)).cell? ⟨w1.heap.size, 0, none⟩ = some (.int .i64 za) := by rw [Ba_t27.cell]; rfl
   have qBa1 : (w5.alloc (.cells #[.int .i64 DZ, .slice add DL.length cd] 34)).cell? ⟨w1.heap.size, 1, none⟩ = some (.slice ada la.length ca) := by rw [Ba_t27.cell]; rfl
   have qBb0 : (w5.alloc (.cells #[.int .i64 DZ, .slice add DL.length cd] 34)).cell? ⟨w1.heap.size + 1, 0, none⟩ = some (.int .i64 ab) := by rw [Bb_t27.cell]; rfl
   have qBb1 : (w5.alloc (.cells #[.int .i64 DZ, .slice add DL.length cd] 34)).cell? ⟨w1.heap.size + 1, 1, none⟩ = some (.slice adb lb.length cb) := by rw [Bb_t27.cell]; rfl
   have qBd0 : (w5.alloc (.cells #[.int .i64 DZ, .slice add DL.length cd] 34)).cell? ⟨w5.heap.size, 0, none⟩ = some (.int .i64 DZ) := by rw [Bd_t26.cell]; rfl
   have qBd1 : (w5.alloc (.cells #[.int .i64 DZ, .slice add DL.length cd] 34)).cell? ⟨w5.heap.size, 1, none⟩ = some (.slice add DL.length cd) := by rw [Bd_t26.cell]; rfl
   go_wp2_with fail
   clear qBa0 qBa1 qBb0 qBb1 qBd0 qBd1
   refine (implWorkEndO d_t27 b_t27 hfD hfb (by omega) (by omega)).mono ?_
   rw [HEE.out.1, HEE.out.2.1, HEE.out.2.2]
   rintro e w6 ⟨Vt, rfl, t_n, hb6⟩
   obtain ⟨adt, ct, rfl, ry1_t, ry2_t, ry3_t⟩ := t_n.read
   clear ry1_t ry2_t ry3_t
   have a_t29 := a_t27.next hb6
   clear a_t27
   have b_t29 := b_t27.next hb6
   clear b_t27
   have um_t29 := um_t27.next hb6
   clear um_t27
   have d_t29 := d_t27.next hb6
   clear d_t27
   have Ba_t29 := Ba_t27.next hb6
   clear Ba_t27
   have Bb_t29 := Bb_t27.next hb6
   clear Bb_t27
   have Bd_t29 := Bd_t26.next hb6
   clear Bd_t26
   have hw_t29 := below_next hw_t27 hb6
   have hs_t29 := hb6.size
   have hb_t31 := below_alloc (Below.refl _ w6) (.cells #[.int .i64 EZ, .slice adt EL.length ct] 34)
   have Bt_t31 := blkA w6 #[.int .i64 EZ, .slice adt EL.length ct] 34
   have hz_t31 : (w6.alloc (.cells #[.int .i64 EZ, .slice adt EL.length ct] 34)).heap.size = w6.heap.size + 1 := World.size_alloc _ _
   have a_t32 := a_t29.next hb_t31
   clear a_t29
   have b_t32 := b_t29.next hb_t31
   clear b_t29
   have um_t32 := um_t29.next hb_t31
   clear um_t29
   have d_t32 := d_t29.next hb_t31
   clear d_t29
   have t_t32 := t_n.next hb_t31
   clear t_n
   have Ba_t32 := Ba_t29.next hb_t31
   clear Ba_t29
   have Bb_t32 := Bb_t29.next hb_t31
   clear Bb_t29
   have Bd_t32 := Bd_t29.next hb_t31
   clear Bd_t29
   have hw_t32 := below_next hw_t29 hb_t31
   have hs_t32 := hb_t31.size
   have qBa0 : (w6.alloc (.cells #[.int .i64 EZ, .slice adt EL.length ct] 34)).cell? ⟨w1.heap.size, 0, none⟩ = some (.int .i64 za) := by rw [Ba_t32.cell]; rfl
   have qBa1 : (w6.alloc (.cells #[.int .i64 EZ, .slice adt EL.length ct] 34)).cell? ⟨w1.heap.size, 1, none⟩ = some (.slice ada la.length ca) := by rw [Ba_t32.cell]; rfl
   have qBb0 : (w6.alloc (.cells #[.int .i64 EZ, .slice adt EL.length ct] 34)).cell? ⟨w1.heap.size + 1, 0, none⟩ = some (.int .i64 ab) := by rw [Bb_t32.cell]; rfl
   have qBb1 : (w6.alloc (.cells #[.int .i64 EZ, .slice adt EL.length ct] 34)).cell? ⟨w1.heap.size + 1, 1, none⟩ = some (.slice adb lb.length cb) := by rw [Bb_t32.cell]; rfl
   have qBd0 : (w6.alloc (.cells #[.int .i64 EZ, .slice adt EL.length ct] 34)).cell? ⟨w5.heap.size, 0, none⟩ = some (.int .i64 DZ) := by rw [Bd_t32.cell]; rfl
   have qBd1 : (w6.alloc (.cells #[.int .i64 EZ, .slice adt EL.length ct] 34)).cell? ⟨w5.heap.size, 1, none⟩ = some (.slice add DL.length cd) := by rw [Bd_t32.cell]; rfl
   have qBt0 : (w6.alloc (.cells #[.int .i64 EZ, .slice adt EL.length ct] 34)).cell? ⟨w6.heap.size, 0, none⟩ = some (.int .i64 EZ) := by rw [Bt_t31.cell]; rfl
   have qBt1 : (w6.alloc (.cells #[.int .i64 EZ, .slice adt EL.length ct] 34)).cell? ⟨w6.heap.size, 1, none⟩ = some (.slice adt EL.length ct) := by rw [Bt_t31.cell]; rfl
   go_wp2
   go_ret
   exact ⟨rfl, hw_t32⟩
 ·
  have hn1_RC : (RC == 2) = false := by simp; exact hc
  have hn2_RC : (RC != 2) = true := by simp; exact hc
  have qBa0 : (w4.alloc (.cells #[.int .i64 RZ, .slice ady RL.length cy] 34)).cell? ⟨w1.heap.size, 0, none⟩ = some (.int .i64 za) := by rw [Ba_t22.cell]; rfl
  have qBa1 : (w4.alloc (.cells #[.int .i64 RZ, .slice ady RL.length cy] 34)).cell? ⟨w1.heap.size, 1, none⟩ = some (.slice ada la.length ca) := by rw [Ba_t22.cell]; rfl
  have qBb0 : (w4.alloc (.cells #[.int .i64 RZ, .slice ady RL.length cy] 34)).cell? ⟨w1.heap.size + 1, 0, none⟩ = some (.int .i64 ab) := by rw [Bb_t22.cell]; rfl
  have qBb1 : (w4.alloc (.cells #[.int .i64 RZ, .slice ady RL.length cy] 34)).cell? ⟨w1.heap.size + 1, 1, none⟩ = some (.slice adb lb.length cb) := by rw [Bb_t22.cell]; rfl
  go_wp2
  go_ret
  exact ⟨rfl, hw_t22⟩

set_option maxRecDepth 100000 in
theorem lifted (os : Os) (started : os.Started) (H : Type) (enc : TypeId × Value → H) :
  ReturnsInHanded {} Tryz.checked os 15 .any (Rows.fnWorkLastSpec.pre6 enc Tryz.prog Tryz.f15 Rows.fnWorkLastRow.domain false) (Rows.fnWorkLastSpec.post enc Tryz.prog Tryz.f15 false true false false) := by
 refine returnsInHanded_of_change (C := Tryz.checked) Whole.own started (by kernel_rfl) Tryz.func15
  (ChangeSpec.witness6 (enc := enc) (C := Tryz.checked) false ⟨#[], #[.slice none 0 0, .slice none 0 0], []⟩ 8 (by kernel_rfl) (by kernel_rfl) (by kernel_rfl) (by kernel_rfl)) ?_
 intro W base args ds gs before hval0 hW hcnd _
 have hval : ∀ (j : Nat) t v, Tryz.f15.params[j]? = some t → args[j]? = some v → Value.okWide Tryz.prog W .any base t v := hval0
 have hW' := hW
 obtain ⟨p, q, hA0, hV, rfl, hfz, hnd⟩ := hW
 have hA : DataW.TrodAll enc Tryz.prog W 0 (fun _ => true) true Tryz.f15.params.toList args.toList ds p := hA0
 rw [Tryz.params15] at hA hval
 obtain ⟨v0, vs0, d0, ds0, p0, q0, hargs, rfl, rfl, h0, r0⟩ := trodAll_cons hA
 obtain ⟨v1, vs1, d1, ds1, p1, q1, rfl, rfl, rfl, h1, r1⟩ := trodAll_cons r0
 obtain ⟨rfl, rfl, rfl⟩ := trodAll_nil r1
 obtain rfl : args = #[v0, v1] := by cases args; simp_all
 obtain ⟨rfl, rfl⟩ := trodVars_none hV
 have k0 := h0
 have lt0 : ∀ x ∈ p0, x.block < W.heap.size := by obtain ⟨m, hm⟩ := k0; exact DataW.trod_lt m _ _ _ hm
 obtain ⟨A0, n0, c0, rfl, hc0, hm0, hr0⟩ := openBytes (hval 0 57 v0 rfl rfl) h0
 have k1 := h1
 have lt1 : ∀ x ∈ p1, x.block < W.heap.size := by obtain ⟨m, hm⟩ := k1; exact DataW.trod_lt m _ _ _ hm
 obtain ⟨A1, n1, c1, rfl, hc1, hm1, hr1⟩ := openBytes (hval 1 57 v1 rfl rfl) h1
 clear hA0 hval0
 refine (walk A0 n0 c0 A1 n1 c1 W hc0 hm0 hr0 hc1 hm1 hr1).mono fun e W' ⟨he, bel⟩ => ?_
 subst he
 exact ⟨_, rfl, _, _, _, [], _, [], hW', trodAll_mk1 (shut_bool Tryz.underlying4 _), (trodAll_cons_mk (Below.trod Whole.laidOut (by kernel_rfl) (of_decide_eq_true (by kernel_rfl)) k0 bel lt0) (trodAll_cons_mk (Below.trod Whole.laidOut (by kernel_rfl) (of_decide_eq_true (by kernel_rfl)) k1 bel lt1) trodAll_mk0)), rfl, bel.frame _, fun h => by cases h⟩

theorem named : Tryz.prog.funcNamed Rows.fnWorkLastRow.func = some 15 := by kernel_rfl
theorem closed : Whole.lawFacts Tryz.prog 15 Tryz.f15 Rows.fnWorkLastSpec Rows.fnWorkLastRow = true := by kernel_rfl
theorem inst : Tryz.f15.isInstance Tryz.prog Rows.fnWorkLastRow.origin Rows.fnWorkLastRow.targs := of_decide_eq_true (by kernel_rfl)
theorem wrap : Tryz.f15.isWrapper Tryz.prog Rows.fnWorkLastRow.wrapper Rows.fnWorkLastRow.mainSum := by
 unfold Func.isWrapper; first | (rw [if_pos (by decide +kernel)]; kernel_rfl) | (rw [if_neg (by decide +kernel)]; exact ⟨rfl, rfl⟩)
theorem over : Rows.fnWorkLastRow.holds Tryz.pinned (OpenSpec.ofChange Rows.fnWorkLastSpec) :=
 OpenClaim.holds_of_wide 15 Tryz.f15 rfl rfl rfl rfl rfl rfl rfl ⟨rfl, rfl, rfl, rfl, rfl⟩ rfl rfl rfl rfl rfl named Tryz.func15 (Whole.facts_of closed)
  inst wrap (fun os started H enc _ => lifted os started H enc)

theorem proved : Rows.FnWorkLastSaid := over
#print axioms proved
end Go.Proofs.YtbeklnhngjmpiaaGreat.fnWorkLast
