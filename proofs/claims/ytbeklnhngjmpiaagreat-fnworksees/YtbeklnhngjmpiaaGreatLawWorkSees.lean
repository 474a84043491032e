/- The law FnWorkSees: for every two codes that are drawn from, whatever others do meanwhile one sees the same rows, as in the model: for all inputs the call returns true, and the arguments read afterwards as before. No conditions. -/
import Derived.Test.YtbeklnhngjmpiaaGreatRows
import Derived.Test.YtbeklnhngjmpiaaGreatWhole
import Derived.Test.YtbeklnhngjmpiaaGreatA1
import Derived.Test.YtbeklnhngjmpiaaGreatA4
import Derived.Test.YtbeklnhngjmpiaaGreatDw3
import Derived.Test.YtbeklnhngjmpiaaGreatW3r
import Derived.Test.YtbeklnhngjmpiaaGreatX3f
import Derived.WalkKit
import Derived.ProofKit
import Derived.OpenShut
import Derived.ShutString
import Derived.ChangeOld
import Derived.Below
namespace Go.Proofs.YtbeklnhngjmpiaaGreat.fnWorkSees
open Go.ChangeShapes Go.WideShapes Go.ChangeAt Go.RowKit
open Go.ChangeMaps (open_string shut_string)
set_option linter.unusedVariables false

set_option maxRecDepth 100000 in
set_option maxHeartbeats 1000000 in
theorem walk (A0 : Option Addr) (n0 c0 : Nat) (A1 : Option Addr) (n1 c1 : Nat) (w : World) (hc0 : n0 ≤ c0) (hm0 : c0 ≤ maxLen) (hr0 : RdB w w.heap.size A0 n0) (hc1 : n1 ≤ c1) (hm1 : c1 ≤ maxLen) (hr1 : RdB w w.heap.size A1 n1) :
  Calls Tryz.prog 7 #[.slice A0 n0 c0, .slice A1 n1 c1] w fun e w' => e = .returned (.bool true) ∧ Below w.heap.size w w' := by
 by_cases hn_n0 : (1048576 : Int) < (n0 : Int)
 ·
  go_enter Tryz.func7, Tryz.ntmps7
  go_wp2
  go_ret
  exact ⟨rfl, Below.refl _ _⟩
 by_cases hn_n1 : (1048576 : Int) < (n1 : Int)
 ·
  go_enter Tryz.func7, Tryz.ntmps7
  go_wp2
  go_ret
  exact ⟨rfl, Below.refl _ _⟩
 go_enter Tryz.func7, Tryz.ntmps7
 go_wp2_with fail
 refine (drawWorkRows A0 n0 c0 w hc0 hm0 hr0).mono ?_
 rintro e w1 ⟨za, Va, la, ab, Vb, lb, rfl, a_n, hfa, hza, hla, b_n, hfb, hab, hlb, hb1⟩
 obtain ⟨ada, ca, rfl, ry1_a, ry2_a, ry3_a⟩ := a_n.read
 clear ry1_a ry2_a ry3_a
 obtain ⟨adb, cb, rfl, ry1_b, ry2_b, ry3_b⟩ := b_n.read
 clear ry1_b ry2_b ry3_b
 have hw_t1 := hb1
 have hs_t1 := hb1.size
 have hb_t3 := below_alloc (Below.refl _ w1) (.cells #[.int .i64 za, .slice ada la.length ca] 34)
 have Ba_t3 := blkA w1 #[.int .i64 za, .slice ada la.length ca] 34
 have hz_t3 : (w1.alloc (.cells #[.int .i64 za, .slice ada la.length ca] 34)).heap.size = w1.heap.size + 1 := World.size_alloc _ _
 have a_t4 := a_n.next hb_t3
 clear a_n
 have b_t4 := b_n.next hb_t3
 clear b_n
 have hw_t4 := below_next hw_t1 hb_t3
 have hs_t4 := hb_t3.size
 have hb_t6 := below_alloc (Below.refl _ (w1.alloc (.cells #[.int .i64 za, .slice ada la.length ca] 34))) (.cells #[.int .i64 ab, .slice adb lb.length cb] 38)
 have Bb_t6 := blkA (w1.alloc (.cells #[.int .i64 za, .slice ada la.length ca] 34)) #[.int .i64 ab, .slice adb lb.length cb] 38
 simp only [World.size_alloc] at Bb_t6
 have hz_t6 : ((w1.alloc (.cells #[.int .i64 za, .slice ada la.length ca] 34)).alloc (.cells #[.int .i64 ab, .slice adb lb.length cb] 38)).heap.size = (w1.alloc (.cells #[.int .i64 za, .slice ada la.length ca] 34)).heap.size + 1 := World.size_alloc _ _
 have a_t7 := a_t4.next hb_t6
 clear a_t4
 have b_t7 := b_t4.next hb_t6
 clear b_t4
 have Ba_t7 := Ba_t3.next hb_t6
 clear Ba_t3
 have hw_t7 := below_next hw_t4 hb_t6
 have hs_t7 := hb_t6.size
 have qBa0 : ((w1.alloc (.cells #[.int .i64 za, .slice ada la.length ca] 34)).alloc (.cells #[.int .i64 ab, .slice adb lb.length cb] 38)).cell? ⟨w1.heap.size, 0, none⟩ = some (.int .i64 za) := by rw [Ba_t7.cell]; rfl
 have qBa1 : ((w1.alloc (.cells #[.int .i64 za, .slice ada la.length ca] 34)).alloc (.cells #[.int .i64 ab, .slice adb lb.length cb] 38)).cell? ⟨w1.heap.size, 1, none⟩ = some (.slice ada la.length ca) := by rw [Ba_t7.cell]; rfl
 have qBb0 : ((w1.alloc (.cells #[.int .i64 za, .slice ada la.length ca] 34)).alloc (.cells #[.int .i64 ab, .slice adb lb.length cb] 38)).cell? ⟨w1.heap.size + 1, 0, none⟩ = some (.int .i64 ab) := by rw [Bb_t6.cell]; rfl
 have qBb1 : ((w1.alloc (.cells #[.int .i64 za, .slice ada la.length ca] 34)).alloc (.cells #[.int .i64 ab, .slice adb lb.length cb] 38)).cell? ⟨w1.heap.size + 1, 1, none⟩ = some (.slice adb lb.length cb) := by rw [Bb_t6.cell]; rfl
 go_wp2_with fail
 clear qBa0 qBa1 qBb0 qBb1
 refine (drawVersDo A1 n1 c1 _ hc1 hm1 (hr1.next hw_t7)).mono ?_
 rintro e w2 ⟨zm, Vm, lm, Um, xm, rfl, m_n, hfm, hzm, hlm, um_n, hfxm, hlxm, hb2⟩
 obtain ⟨adm, cm, rfl, ry1_m, ry2_m, ry3_m⟩ := m_n.read
 clear ry1_m ry2_m ry3_m
 obtain ⟨adum, cum, rfl, ry1_um, ry2_um, ry3_um⟩ := um_n.read
 clear ry1_um ry2_um ry3_um
 have a_t9 := a_t7.next hb2
 clear a_t7
 have b_t9 := b_t7.next hb2
 clear b_t7
 have Ba_t9 := Ba_t7.next hb2
 clear Ba_t7
 have Bb_t9 := Bb_t6.next hb2
 clear Bb_t6
 have hw_t9 := below_next hw_t7 hb2
 have hs_t9 := hb2.size
 have hb_t11 := below_alloc (Below.refl _ w2) (.cells #[.int .i64 zm, .slice adm lm.length cm] 34)
 have Bm_t11 := blkA w2 #[.int .i64 zm, .slice adm lm.length cm] 34
 have hz_t11 : (w2.alloc (.cells #[.int .i64 zm, .slice adm lm.length cm] 34)).heap.size = w2.heap.size + 1 := World.size_alloc _ _
 have a_t12 := a_t9.next hb_t11
 clear a_t9
 have b_t12 := b_t9.next hb_t11
 clear b_t9
 have m_t12 := m_n.next hb_t11
 clear m_n
 have um_t12 := um_n.next hb_t11
 clear um_n
 have Ba_t12 := Ba_t9.next hb_t11
 clear Ba_t9
 have Bb_t12 := Bb_t9.next hb_t11
 clear Bb_t9
 have hw_t12 := below_next hw_t9 hb_t11
 have hs_t12 := hb_t11.size
 clear m_t12
 have hl_R1 := workRows_length za la ab lb
 have hf_R1 : FitR (workRows za la ab lb) := fitR_work hfa hfb
 obtain ⟨R1, HR1⟩ : ∃ R1, Hid (workRows za la ab lb = R1) := ⟨_, Lib.hid rfl⟩
 rw [HR1.out] at hl_R1 hf_R1
 have qBa0 : (w2.alloc (.cells #[.int .i64 zm, .slice adm lm.length cm] 34)).cell? ⟨w1.heap.size, 0, none⟩ = some (.int .i64 za) := by rw [Ba_t12.cell]; rfl
 have qBa1 : (w2.alloc (.cells #[.int .i64 zm, .slice adm lm.length cm] 34)).cell? ⟨w1.heap.size, 1, none⟩ = some (.slice ada la.length ca) := by rw [Ba_t12.cell]; rfl
 have qBb0 : (w2.alloc (.cells #[.int .i64 zm, .slice adm lm.length cm] 34)).cell? ⟨w1.heap.size + 1, 0, none⟩ = some (.int .i64 ab) := by rw [Bb_t12.cell]; rfl
 have qBb1 : (w2.alloc (.cells #[.int .i64 zm, .slice adm lm.length cm] 34)).cell? ⟨w1.heap.size + 1, 1, none⟩ = some (.slice adb lb.length cb) := by rw [Bb_t12.cell]; rfl
 go_wp2_with fail
 clear qBa0 qBa1 qBb0 qBb1
 refine (implWorkRowsO a_t12 b_t12 hfa hfb (by omega) (by omega)).mono ?_
 rw [HR1.out]
 rintro e w3 ⟨Vr, rfl, r_n, hb3⟩
 obtain ⟨adr, cr, rfl, ry1_r, ry2_r, ry3_r⟩ := r_n.read
 clear ry1_r ry2_r ry3_r
 have a_t14 := a_t12.next hb3
 clear a_t12
 have b_t14 := b_t12.next hb3
 clear b_t12
 have um_t14 := um_t12.next hb3
 clear um_t12
 have Ba_t14 := Ba_t12.next hb3
 clear Ba_t12
 have Bb_t14 := Bb_t12.next hb3
 clear Bb_t12
 have hw_t14 := below_next hw_t12 hb3
 have hs_t14 := hb3.size
 have qBa0 : w3.cell? ⟨w1.heap.size, 0, none⟩ = some (.int .i64 za) := by rw [Ba_t14.cell]; rfl
 have qBa1 : w3.cell? ⟨w1.heap.size, 1, none⟩ = some (.slice ada la.length ca) := by rw [Ba_t14.cell]; rfl
 have qBb0 : w3.cell? ⟨w1.heap.size + 1, 0, none⟩ = some (.int .i64 ab) := by rw [Bb_t14.cell]; rfl
 have qBb1 : w3.cell? ⟨w1.heap.size + 1, 1, none⟩ = some (.slice adb lb.length cb) := by rw [Bb_t14.cell]; rfl
 go_wp2_with fail
 clear qBa0 qBa1 qBb0 qBb1
 refine (specWorkRowsO a_t14 b_t14 hfa hfb (by omega) (by omega)).mono ?_
 rw [HR1.out]
 rintro e w4 ⟨Vq, rfl, q_n, hb4⟩
 obtain ⟨adq, cq, rfl, ry1_q, ry2_q, ry3_q⟩ := q_n.read
 clear ry1_q ry2_q ry3_q
 have a_t16 := a_t14.next hb4
 clear a_t14
 have b_t16 := b_t14.next hb4
 clear b_t14
 have um_t16 := um_t14.next hb4
 clear um_t14
 have r_t16 := r_n.next hb4
 clear r_n
 have Ba_t16 := Ba_t14.next hb4
 clear Ba_t14
 have Bb_t16 := Bb_t14.next hb4
 clear Bb_t14
 have hw_t16 := below_next hw_t14 hb4
 have hs_t16 := hb4.size
 have qBa0 : w4.cell? ⟨w1.heap.size, 0, none⟩ = some (.int .i64 za) := by rw [Ba_t16.cell]; rfl
 have qBa1 : w4.cell? ⟨w1.heap.size, 1, none⟩ = some (.slice ada la.length ca) := by rw [Ba_t16.cell]; rfl
 have qBb0 : w4.cell? ⟨w1.heap.size + 1, 0, none⟩ = some (.int .i64 ab) := by rw [Bb_t16.cell]; rfl
 have qBb1 : w4.cell? ⟨w1.heap.size + 1, 1, none⟩ = some (.slice adb lb.length cb) := by rw [Bb_t16.cell]; rfl
 go_wp2_with fail
 clear qBa0 qBa1 qBb0 qBb1
 refine (wpO r_t16 q_n (by omega) (by omega)).mono ?_
 rintro e w5 ⟨rfl, hb5⟩
 rw [eqL_yes rfl]
 have a_t18 := a_t16.next hb5
 clear a_t16
 have b_t18 := b_t16.next hb5
 clear b_t16
 have um_t18 := um_t16.next hb5
 clear um_t16
 have r_t18 := r_t16.next hb5
 clear r_t16
 have q_t18 := q_n.next hb5
 clear q_n
 have Ba_t18 := Ba_t16.next hb5
 clear Ba_t16
 have Bb_t18 := Bb_t16.next hb5
 clear Bb_t16
 have hw_t18 := below_next hw_t16 hb5
 have hs_t18 := hb5.size
 clear q_t18
 cases hc : workB za la ab lb
 ·
  have qBa0 : w5.cell? ⟨w1.heap.size, 0, none⟩ = some (.int .i64 za) := by rw [Ba_t18.cell]; rfl
  have qBa1 : w5.cell? ⟨w1.heap.size, 1, none⟩ = some (.slice ada la.length ca) := by rw [Ba_t18.cell]; rfl
  have qBb0 : w5.cell? ⟨w1.heap.size + 1, 0, none⟩ = some (.int .i64 ab) := by rw [Bb_t18.cell]; rfl
  have qBb1 : w5.cell? ⟨w1.heap.size + 1, 1, none⟩ = some (.slice adb lb.length cb) := by rw [Bb_t18.cell]; rfl
  go_wp2_with fail
  clear qBa0 qBa1 qBb0 qBb1
  refine (specWorkOkO a_t18 b_t18 hfa hfb (by omega) (by omega)).mono ?_
  rintro e w6 ⟨rfl, hb6⟩
  rw [hc]
  have a_t20 := a_t18.next hb6
  clear a_t18
  have b_t20 := b_t18.next hb6
  clear b_t18
  have um_t20 := um_t18.next hb6
  clear um_t18
  have r_t20 := r_t18.next hb6
  clear r_t18
  have Ba_t20 := Ba_t18.next hb6
  clear Ba_t18
  have Bb_t20 := Bb_t18.next hb6
  clear Bb_t18
  have hw_t20 := below_next hw_t18 hb6
  have hs_t20 := hb6.size
  have qBa0 : w6.cell? ⟨w1.heap.size, 0, none⟩ = some (.int .i64 za) := by rw [Ba_t20.cell]; rfl
  have qBa1 : w6.cell? ⟨w1.heap.size, 1, none⟩ = some (.slice ada la.length ca) := by rw [Ba_t20.cell]; rfl
  have qBb0 : w6.cell? ⟨w1.heap.size + 1, 0, none⟩ = some (.int .i64 ab) := by rw [Bb_t20.cell]; rfl
  have qBb1 : w6.cell? ⟨w1.heap.size + 1, 1, none⟩ = some (.slice adb lb.length cb) := by rw [Bb_t20.cell]; rfl
  go_wp2_with fail
  clear qBa0 qBa1 qBb0 qBb1
  refine (specWorkRowsO a_t20 b_t20 hfa hfb (by omega) (by omega)).mono ?_
  rw [HR1.out]
  rintro e w7 ⟨Vp, rfl, p_n, hb7⟩
  obtain ⟨adp, cp, rfl, ry1_p, ry2_p, ry3_p⟩ := p_n.read
  clear ry1_p ry2_p ry3_p
  have a_t22 := a_t20.next hb7
  clear a_t20
  have b_t22 := b_t20.next hb7
  clear b_t20
  have um_t22 := um_t20.next hb7
  clear um_t20
  have r_t22 := r_t20.next hb7
  clear r_t20
  have Ba_t22 := Ba_t20.next hb7
  clear Ba_t20
  have Bb_t22 := Bb_t20.next hb7
  clear Bb_t20
  have hw_t22 := below_next hw_t20 hb7
  have hs_t22 := hb7.size
  have qBa0 : w7.cell? ⟨w1.heap.size, 0, none⟩ = some (.int .i64 za) := by rw [Ba_t22.cell]; rfl
  have qBa1 : w7.cell? ⟨w1.heap.size, 1, none⟩ = some (.slice ada la.length ca) := by rw [Ba_t22.cell]; rfl
  have qBb0 : w7.cell? ⟨w1.heap.size + 1, 0, none⟩ = some (.int .i64 ab) := by rw [Bb_t22.cell]; rfl
  have qBb1 : w7.cell? ⟨w1.heap.size + 1, 1, none⟩ = some (.slice adb lb.length cb) := by rw [Bb_t22.cell]; rfl
  go_wp2_with fail
  clear qBa0 qBa1 qBb0 qBb1
  refine (wpO r_t22 p_n (by omega) (by omega)).mono ?_
  rintro e w8 ⟨rfl, hb8⟩
  rw [eqL_yes rfl]
  have a_t24 := a_t22.next hb8
  clear a_t22
  have b_t24 := b_t22.next hb8
  clear b_t22
  have um_t24 := um_t22.next hb8
  clear um_t22
  have r_t24 := r_t22.next hb8
  clear r_t22
  have p_t24 := p_n.next hb8
  clear p_n
  have Ba_t24 := Ba_t22.next hb8
  clear Ba_t22
  have Bb_t24 := Bb_t22.next hb8
  clear Bb_t22
  have hw_t24 := below_next hw_t22 hb8
  have hs_t24 := hb8.size
  have qBa0 : w8.cell? ⟨w1.heap.size, 0, none⟩ = some (.int .i64 za) := by rw [Ba_t24.cell]; rfl
  have qBa1 : w8.cell? ⟨w1.heap.size, 1, none⟩ = some (.slice ada la.length ca) := by rw [Ba_t24.cell]; rfl
  have qBb0 : w8.cell? ⟨w1.heap.size + 1, 0, none⟩ = some (.int .i64 ab) := by rw [Bb_t24.cell]; rfl
  have qBb1 : w8.cell? ⟨w1.heap.size + 1, 1, none⟩ = some (.slice adb lb.length cb) := by rw [Bb_t24.cell]; rfl
  go_wp2
  go_ret
  exact ⟨rfl, hw_t24⟩
 ·
  have qBa0 : w5.cell? ⟨w1.heap.size, 0, none⟩ = some (.int .i64 za) := by rw [Ba_t18.cell]; rfl
  have qBa1 : w5.cell? ⟨w1.heap.size, 1, none⟩ = some (.slice ada la.length ca) := by rw [Ba_t18.cell]; rfl
  have qBb0 : w5.cell? ⟨w1.heap.size + 1, 0, none⟩ = some (.int .i64 ab) := by rw [Bb_t18.cell]; rfl
  have qBb1 : w5.cell? ⟨w1.heap.size + 1, 1, none⟩ = some (.slice adb lb.length cb) := by rw [Bb_t18.cell]; rfl
  go_wp2_with fail
  clear qBa0 qBa1 qBb0 qBb1
  refine (specWorkOkO a_t18 b_t18 hfa hfb (by omega) (by omega)).mono ?_
  rintro e w6 ⟨rfl, hb6⟩
  rw [hc]
  have a_t20 := a_t18.next hb6
  clear a_t18
  have b_t20 := b_t18.next hb6
  clear b_t18
  have um_t20 := um_t18.next hb6
  clear um_t18
  have r_t20 := r_t18.next hb6
  clear r_t18
  have Ba_t20 := Ba_t18.next hb6
  clear Ba_t18
  have Bb_t20 := Bb_t18.next hb6
  clear Bb_t18
  have hw_t20 := below_next hw_t18 hb6
  have hs_t20 := hb6.size
  have hbd := do_len8 (z := za) (ws := xm) hfa hfxm (by omega)
  obtain ⟨DZ, DL, DB, HDD⟩ : ∃ DZ DL DB, Hid (doZ za la xm = DZ ∧ doL za la xm = DL ∧ doB za la xm = DB) := ⟨_, _, _, Lib.hid ⟨rfl, rfl, rfl⟩⟩
  rw [HDD.out.2.1] at hbd
  obtain ⟨hDl, hfD⟩ := hbd
  have qBa0 : w6.cell? ⟨w1.heap.size, 0, none⟩ = some (.int .i64 za) := by rw [Ba_t20.cell]; rfl
  have qBa1 : w6.cell? ⟨w1.heap.size, 1, none⟩ = some (.slice ada la.length ca) := by rw [Ba_t20.cell]; rfl
  have qBb0 : w6.cell? ⟨w1.heap.size + 1, 0, none⟩ = some (.int .i64 ab) := by rw [Bb_t20.cell]; rfl
  have qBb1 : w6.cell? ⟨w1.heap.size + 1, 1, none⟩ = some (.slice adb lb.length cb) := by rw [Bb_t20.cell]; rfl
  go_wp2_with fail
  clear qBa0 qBa1 qBb0 qBb1
  refine (implVersDoO a_t20 um_t20 hfa hfxm (by omega) (by omega)).mono ?_
  rw [HDD.out.1, HDD.out.2.1, HDD.out.2.2]
  rintro e w7 ⟨Vx, rfl, x_n, hb7⟩
  obtain ⟨adx, cx, rfl, ry1_x, ry2_x, ry3_x⟩ := x_n.read
  clear ry1_x ry2_x ry3_x
  have a_t22 := a_t20.next hb7
  clear a_t20
  have b_t22 := b_t20.next hb7
  clear b_t20
  have um_t22 := um_t20.next hb7
  clear um_t20
  have r_t22 := r_t20.next hb7
  clear r_t20
  have Ba_t22 := Ba_t20.next hb7
  clear Ba_t20
  have Bb_t22 := Bb_t20.next hb7
  clear Bb_t20
  have hw_t22 := below_next hw_t20 hb7
  have hs_t22 := hb7.size
  have hb_t24 := below_alloc (Below.refl _ w7) (.cells #[.int .i64 DZ, .slice adx DL.length cx] 34)
  have Bx_t24 := blkA w7 #[.int .i64 DZ, .slice adx DL.length cx] 34
  have hz_t24 : (w7.alloc (.cells #[.int .i64 DZ, .slice adx DL.length cx] 34)).heap.size = w7.heap.size + 1 := World.size_alloc _ _
  have a_t25 := a_t22.next hb_t24
  clear a_t22
  have b_t25 := b_t22.next hb_t24
  clear b_t22
  have um_t25 := um_t22.next hb_t24
  clear um_t22
  have r_t25 := r_t22.next hb_t24
  clear r_t22
  have x_t25 := x_n.next hb_t24
  clear x_n
  have Ba_t25 := Ba_t22.next hb_t24
  clear Ba_t22
  have Bb_t25 := Bb_t22.next hb_t24
  clear Bb_t22
  have hw_t25 := below_next hw_t22 hb_t24
  have hs_t25 := hb_t24.size
  cases hd : DB
  ·
   subst hd
   have qBa0 : (w7.alloc (.cells #[.int .i64 DZ, .slice adx DL.length cx] 34)).cell? ⟨w1.heap.size, 0, none⟩ = some (.int .i64 za) := by rw [Ba_t25.cell]; rfl
   have qBa1 : (w7.alloc (.cells #[.int .i64 DZ, .slice adx DL.length cx] 34)).cell? ⟨w1.heap.size, 1, none⟩ = some (.slice ada la.length ca) := by rw [Ba_t25.cell]; rfl
   have qBb0 : (w7.alloc (.cells #[.int .i64 DZ, .slice adx DL.length cx] 34)).cell? ⟨w1.heap.size + 1, 0, none⟩ = some (.int .i64 ab) := by rw [Bb_t25.cell]; rfl
   have qBb1 : (w7.alloc (.cells #[.int .i64 DZ, .slice adx DL.length cx] 34)).cell? ⟨w1.heap.size + 1, 1, none⟩ = some (.slice adb lb.length cb) := by rw [Bb_t25.cell]; rfl
   have qBx0 : (w7.alloc (.cells #[.int .i64 DZ, .slice adx DL.length cx] 34)).cell? ⟨w7.heap.size, 0, none⟩ = some (.int .i64 DZ) := by rw [Bx_t24.cell]; rfl
   have qBx1 : (w7.alloc (.cells #[.int .i64 DZ, .slice adx DL.length cx] 34)).cell? ⟨w7.heap.size, 1, none⟩ = some (.slice adx DL.length cx) := by rw [Bx_t24.cell]; rfl
   go_wp2
   go_ret
   exact ⟨rfl, hw_t25⟩
  ·
   subst hd
   have H1 : Hid (workB DZ DL ab lb = true ∧ workRows DZ DL ab lb = R1) := Lib.hid (by
    obtain ⟨-, -, -, e1, e2⟩ := do_parts HDD.out.2.2
    obtain ⟨s1, s2⟩ := sees_do (workB_iff.1 hc) HDD.out.2.2
    rw [← HDD.out.1, ← HDD.out.2.1, e1, e2]
    exact ⟨workB_iff.2 s1, s2.trans HR1.out⟩)
   have qBa0 : (w7.alloc (.cells #[.int .i64 DZ, .slice adx DL.length cx] 34)).cell? ⟨w1.heap.size, 0, none⟩ = some (.int .i64 za) := by rw [Ba_t25.cell]; rfl
   have qBa1 : (w7.alloc (.cells #[.int .i64 DZ, .slice adx DL.length cx] 34)).cell? ⟨w1.heap.size, 1, none⟩ = some (.slice ada la.length ca) := by rw [Ba_t25.cell]; rfl
   have qBb0 : (w7.alloc (.cells #[.int .i64 DZ, .slice adx DL.length cx] 34)).cell? ⟨w1.heap.size + 1, 0, none⟩ = some (.int .i64 ab) := by rw [Bb_t25.cell]; rfl
   have qBb1 : (w7.alloc (.cells #[.int .i64 DZ, .slice adx DL.length cx] 34)).cell? ⟨w1.heap.size + 1, 1, none⟩ = some (.slice adb lb.length cb) := by rw [Bb_t25.cell]; rfl
   have qBx0 : (w7.alloc (.cells #[.int .i64 DZ, .slice adx DL.length cx] 34)).cell? ⟨w7.heap.size, 0, none⟩ = some (.int .i64 DZ) := by rw [Bx_t24.cell]; rfl
   have qBx1 : (w7.alloc (.cells #[.int .i64 DZ, .slice adx DL.length cx] 34)).cell? ⟨w7.heap.size, 1, none⟩ = some (.slice adx DL.length cx) := by rw [Bx_t24.cell]; rfl
   go_wp2_with fail
   clear qBa0 qBa1 qBb0 qBb1 qBx0 qBx1
   refine (implWorkOkO x_t25 b_t25 hfD hfb (by omega) (by omega)).mono ?_
   rintro e w8 ⟨rfl, hb8⟩
   rw [H1.out.1]
   have a_t27 := a_t25.next hb8
   clear a_t25
   have b_t27 := b_t25.next hb8
   clear b_t25
   have um_t27 := um_t25.next hb8
   clear um_t25
   have r_t27 := r_t25.next hb8
   clear r_t25
   have x_t27 := x_t25.next hb8
   clear x_t25
   have Ba_t27 := Ba_t25.next hb8
   clear Ba_t25
   have Bb_t27 := Bb_t25.next hb8
   clear Bb_t25
   have Bx_t27 := Bx_t24.next hb8
   clear Bx_t24
   have hw_t27 := below_next hw_t25 hb8
   have hs_t27 := hb8.size
   have qBa0 : w8.cell? ⟨w1.heap.size, 0, none⟩ = some (.int .i64 za) := by rw [Ba_t27.cell]; rfl
   have qBa1 : w8.cell? ⟨w1.heap.size, 1, none⟩ = some (.slice ada la.length ca) := by rw [Ba_t27.cell]; rfl
   have qBb0 : w8.cell? ⟨w1.heap.size + 1, 0, none⟩ = some (.int .i64 ab) := by rw [Bb_t27.cell]; rfl
   have qBb1 : w8.cell? ⟨w1.heap.size + 1, 1, none⟩ = some (.slice adb lb.length cb) := by rw [Bb_t27.cell]; rfl
   have qBx0 : w8.cell? ⟨w7.heap.size, 0, none⟩ = some (.int .i64 DZ) := by rw [Bx_t27.cell]; rfl
   have qBx1 : w8.cell? ⟨w7.heap.size, 1, none⟩ = some (.slice adx DL.length cx) := by rw [Bx_t27.cell]; rfl
   go_wp2_with fail
   clear qBa0 qBa1 qBb0 qBb1 qBx0 qBx1
   refine (implWorkRowsO x_t27 b_t27 hfD hfb (by omega) (by omega)).mono ?_
   rw [H1.out.2]
   rintro e w9 ⟨Vs, rfl, s_n, hb9⟩
   obtain ⟨ads, cs, rfl, ry1_s, ry2_s, ry3_s⟩ := s_n.read
   clear ry1_s ry2_s ry3_s
   have a_t29 := a_t27.next hb9
   clear a_t27
   have b_t29 := b_t27.next hb9
   clear b_t27
   have um_t29 := um_t27.next hb9
   clear um_t27
   have r_t29 := r_t27.next hb9
   clear r_t27
   have x_t29 := x_t27.next hb9
   clear x_t27
   have Ba_t29 := Ba_t27.next hb9
   clear Ba_t27
   have Bb_t29 := Bb_t27.next hb9
   clear Bb_t27
   have Bx_t29 := Bx_t27.next hb9
   clear Bx_t27
   have hw_t29 := below_next hw_t27 hb9
   have hs_t29 := hb9.size
   have qBa0 : w9.cell? ⟨w1.heap.size, 0, none⟩ = some (.int .i64 za) := by rw [Ba_t29.cell]; rfl
   have qBa1 : w9.cell? ⟨w1.heap.size, 1, none⟩ = some (.slice ada la.length ca) := by rw [Ba_t29.cell]; rfl
   have qBb0 : w9.cell? ⟨w1.heap.size + 1, 0, none⟩ = some (.int .i64 ab) := by rw [Bb_t29.cell]; rfl
   have qBb1 : w9.cell? ⟨w1.heap.size + 1, 1, none⟩ = some (.slice adb lb.length cb) := by rw [Bb_t29.cell]; rfl
   have qBx0 : w9.cell? ⟨w7.heap.size, 0, none⟩ = some (.int .i64 DZ) := by rw [Bx_t29.cell]; rfl
   have qBx1 : w9.cell? ⟨w7.heap.size, 1, none⟩ = some (.slice adx DL.length cx) := by rw [Bx_t29.cell]; rfl
   go_wp2_with fail
   clear qBa0 qBa1 qBb0 qBb1 qBx0 qBx1
   refine (wpO s_n r_t29 (by omega) (by omega)).mono ?_
   rintro e w10 ⟨rfl, hb10⟩
   rw [eqL_yes rfl]
   have a_t31 := a_t29.next hb10
   clear a_t29
   have b_t31 := b_t29.next hb10
   clear b_t29
   have um_t31 := um_t29.next hb10
   clear um_t29
   have r_t31 := r_t29.next hb10
   clear r_t29
   have x_t31 := x_t29.next hb10
   clear x_t29
   have s_t31 := s_n.next hb10
   clear s_n
   have Ba_t31 := Ba_t29.next hb10
   clear Ba_t29
   have Bb_t31 := Bb_t29.next hb10
   clear Bb_t29
   have Bx_t31 := Bx_t29.next hb10
   clear Bx_t29
   have hw_t31 := below_next hw_t29 hb10
   have hs_t31 := hb10.size
   have qBa0 : w10.cell? ⟨w1.heap.size, 0, none⟩ = some (.int .i64 za) := by rw [Ba_t31.cell]; rfl
   have qBa1 : w10.cell? ⟨w1.heap.size, 1, none⟩ = some (.slice ada la.length ca) := by rw [Ba_t31.cell]; rfl
   have qBb0 : w10.cell? ⟨w1.heap.size + 1, 0, none⟩ = some (.int .i64 ab) := by rw [Bb_t31.cell]; rfl
   have qBb1 : w10.cell? ⟨w1.heap.size + 1, 1, none⟩ = some (.slice adb lb.length cb) := by rw [Bb_t31.cell]; rfl
   have qBx0 : w10.cell? ⟨w7.heap.size, 0, none⟩ = some (.int .i64 DZ) := by rw [Bx_t31.cell]; rfl
   have qBx1 : w10.cell? ⟨w7.heap.size, 1, none⟩ = some (.slice adx DL.length cx) := by rw [Bx_t31.cell]; rfl
   go_wp2
   go_ret
   exact ⟨rfl, hw_t31⟩

set_option maxRecDepth 100000 in
theorem lifted (os : Os) (started : os.Started) (H : Type) (enc : TypeId × Value → H) :
  ReturnsInHanded {} Tryz.checked os 7 .any (Rows.fnWorkSeesSpec.pre6 enc Tryz.prog Tryz.f7 Rows.fnWorkSeesRow.domain false) (Rows.fnWorkSeesSpec.post enc Tryz.prog Tryz.f7 false true false false) := by
 refine returnsInHanded_of_change (C := Tryz.checked) Whole.own started (by kernel_rfl) Tryz.func7
  (ChangeSpec.witness6 (enc := enc) (C := Tryz.checked) false ⟨#[], #[.slice none 0 0, .slice none 0 0], []⟩ 8 (by kernel_rfl) (by kernel_rfl) (by kernel_rfl) (by kernel_rfl)) ?_
 intro W base args ds gs before hval0 hW hcnd _
 have hval : ∀ (j : Nat) t v, Tryz.f7.params[j]? = some t → args[j]? = some v → Value.okWide Tryz.prog W .any base t v := hval0
 have hW' := hW
 obtain ⟨p, q, hA0, hV, rfl, hfz, hnd⟩ := hW
 have hA : DataW.TrodAll enc Tryz.prog W 0 (fun _ => true) true Tryz.f7.params.toList args.toList ds p := hA0
 rw [Tryz.params7] at hA hval
 obtain ⟨v0, vs0, d0, ds0, p0, q0, hargs, rfl, rfl, h0, r0⟩ := trodAll_cons hA
 obtain ⟨v1, vs1, d1, ds1, p1, q1, rfl, rfl, rfl, h1, r1⟩ := trodAll_cons r0
 obtain ⟨rfl, rfl, rfl⟩ := trodAll_nil r1
 obtain rfl : args = #[v0, v1] := by cases args; simp_all
 obtain ⟨rfl, rfl⟩ := trodVars_none hV
 have k0 := h0
 have lt0 : ∀ x ∈ p0, x.block < W.heap.size := by obtain ⟨m, hm⟩ := k0; exact DataW.trod_lt m _ _ _ hm
 obtain ⟨A0, n0, c0, rfl, hc0, hm0, hr0⟩ := openBytes (hval 0 57 v0 rfl rfl) h0
 have k1 := h1
 have lt1 : ∀ x ∈ p1, x.block < W.heap.size := by obtain ⟨m, hm⟩ := k1; exact DataW.trod_lt m _ _ _ hm
 obtain ⟨A1, n1, c1, rfl, hc1, hm1, hr1⟩ := openBytes (hval 1 57 v1 rfl rfl) h1
 clear hA0 hval0
 refine (walk A0 n0 c0 A1 n1 c1 W hc0 hm0 hr0 hc1 hm1 hr1).mono fun e W' ⟨he, bel⟩ => ?_
 subst he
 exact ⟨_, rfl, _, _, _, [], _, [], hW', trodAll_mk1 (shut_bool Tryz.underlying4 _), (trodAll_cons_mk (Below.trod Whole.laidOut (by kernel_rfl) (of_decide_eq_true (by kernel_rfl)) k0 bel lt0) (trodAll_cons_mk (Below.trod Whole.laidOut (by kernel_rfl) (of_decide_eq_true (by kernel_rfl)) k1 bel lt1) trodAll_mk0)), rfl, bel.frame _, fun h => by cases h⟩

theorem named : Tryz.prog.funcNamed Rows.fnWorkSeesRow.func = some 7 := by kernel_rfl
theorem closed : Whole.lawFacts Tryz.prog 7 Tryz.f7 Rows.fnWorkSeesSpec Rows.fnWorkSeesRow = true := by kernel_rfl
theorem inst : Tryz.f7.isInstance Tryz.prog Rows.fnWorkSeesRow.origin Rows.fnWorkSeesRow.targs := of_decide_eq_true (by kernel_rfl)
theorem wrap : Tryz.f7.isWrapper Tryz.prog Rows.fnWorkSeesRow.wrapper Rows.fnWorkSeesRow.mainSum := by
 unfold Func.isWrapper; first | (rw [if_pos (by decide +kernel)]; kernel_rfl) | (rw [if_neg (by decide +kernel)]; exact ⟨rfl, rfl⟩)
theorem over : Rows.fnWorkSeesRow.holds Tryz.pinned (OpenSpec.ofChange Rows.fnWorkSeesSpec) :=
 OpenClaim.holds_of_wide 7 Tryz.f7 rfl rfl rfl rfl rfl rfl rfl ⟨rfl, rfl, rfl, rfl, rfl⟩ rfl rfl rfl rfl rfl named Tryz.func7 (Whole.facts_of closed)
  inst wrap (fun os started H enc _ => lifted os started H enc)

theorem proved : Rows.FnWorkSeesSaid := over
#print axioms proved
end Go.Proofs.YtbeklnhngjmpiaaGreat.fnWorkSees
