/- The law FnWorkTwice: for every code that is drawn from, to put twice is to put once, and of two writes to one key the last counts, as in the model: for every input the call returns true, and the argument reads afterwards as before. No conditions. -/
import Derived.Test.YtbeklnhngjmpiaaGreatRows
import Derived.Test.YtbeklnhngjmpiaaGreatWhole
import Derived.Test.YtbeklnhngjmpiaaGreatA1
import Derived.Test.YtbeklnhngjmpiaaGreatA4
import Derived.Test.YtbeklnhngjmpiaaGreatDw3
import Derived.Test.YtbeklnhngjmpiaaGreatW3r
import Derived.Test.YtbeklnhngjmpiaaGreatX3g
import Derived.Test.YtbeklnhngjmpiaaGreatX3n
import Derived.WalkKit
import Derived.ProofKit
import Derived.OpenShut
import Derived.ShutString
import Derived.ChangeOld
import Derived.Below
namespace Go.Proofs.YtbeklnhngjmpiaaGreat.fnWorkTwice
open Go.ChangeShapes Go.WideShapes Go.ChangeAt Go.RowKit
open Go.ChangeMaps (open_string shut_string)
set_option linter.unusedVariables false

set_option maxRecDepth 100000 in
set_option maxHeartbeats 1000000 in
theorem walk (A0 : Option Addr) (n0 c0 : Nat) (w : World) (hc0 : n0 ≤ c0) (hm0 : c0 ≤ maxLen) (hr0 : RdB w w.heap.size A0 n0) :
  Calls Tryz.prog 12 #[.slice A0 n0 c0] w fun e w' => e = .returned (.bool true) ∧ Below w.heap.size w w' := by
 by_cases hn_n0 : (1048576 : Int) < (n0 : Int)
 ·
  go_enter Tryz.func12, Tryz.ntmps12
  go_wp2
  go_ret
  exact ⟨rfl, Below.refl _ _⟩
 go_enter Tryz.func12, Tryz.ntmps12
 go_wp2_with fail
 refine (drawWorkPut A0 n0 c0 w hc0 hm0 hr0).mono ?_
 rintro e w1 ⟨za, Va, la, ab, Vb, lb, x, rfl, a_n, hfa, hza, hla, b_n, hfb, hab, hlb, hx, hb1⟩
 obtain ⟨ada, ca, rfl, ry1_a, ry2_a, ry3_a⟩ := a_n.read
 clear ry1_a ry2_a ry3_a
 obtain ⟨adb, cb, rfl, ry1_b, ry2_b, ry3_b⟩ := b_n.read
 clear ry1_b ry2_b ry3_b
 have hw_t1 := hb1
 have hs_t1 := hb1.size
 have hb_t3 := below_alloc (Below.refl _ w1) (.cells #[.int .i64 za, .slice ada la.length ca] 34)
 have Ba_t3 := blkA w1 #[.int .i64 za, .slice ada la.length ca] 34
 have hz_t3 : (w1.alloc (.cells #[.int .i64 za, .slice ada la.length ca] 34)).heap.size = w1.heap.size + 1 := World.size_alloc _ _
 have a_t4 := a_n.next hb_t3
 clear a_n
 have b_t4 := b_n.next hb_t3
 clear b_n
 have hw_t4 := below_next hw_t1 hb_t3
 have hs_t4 := hb_t3.size
 have hb_t6 := below_alloc (Below.refl _ (w1.alloc (.cells #[.int .i64 za, .slice ada la.length ca] 34))) (.cells #[.int .i64 ab, .slice adb lb.length cb] 38)
 have Bb_t6 := blkA (w1.alloc (.cells #[.int .i64 za, .slice ada la.length ca] 34)) #[.int .i64 ab, .slice adb lb.length cb] 38
 simp only [World.size_alloc] at Bb_t6
 have hz_t6 : ((w1.alloc (.cells #[.int .i64 za, .slice ada la.length ca] 34)).alloc (.cells #[.int .i64 ab, .slice adb lb.length cb] 38)).heap.size = (w1.alloc (.cells #[.int .i64 za, .slice ada la.length ca] 34)).heap.size + 1 := World.size_alloc _ _
 have a_t7 := a_t4.next hb_t6
 clear a_t4
 have b_t7 := b_t4.next hb_t6
 clear b_t4
 have Ba_t7 := Ba_t3.next hb_t6
 clear Ba_t3
 have hw_t7 := below_next hw_t4 hb_t6
 have hs_t7 := hb_t6.size
 have hb_t9 := below_alloc (Below.refl _ ((w1.alloc (.cells #[.int .i64 za, .slice ada la.length ca] 34)).alloc (.cells #[.int .i64 ab, .slice adb lb.length cb] 38))) (.cells #[.string x.k, .int .i64 x.n, .bool x.g] 52)
 have Bx_t9 := blkA ((w1.alloc (.cells #[.int .i64 za, .slice ada la.length ca] 34)).alloc (.cells #[.int .i64 ab, .slice adb lb.length cb] 38)) #[.string x.k, .int .i64 x.n, .bool x.g] 52
 simp only [World.size_alloc] at Bx_t9
 have hz_t9 : (((w1.alloc (.cells #[.int .i64 za, .slice ada la.length ca] 34)).alloc (.cells #[.int .i64 ab, .slice adb lb.length cb] 38)).alloc (.cells #[.string x.k, .int .i64 x.n, .bool x.g] 52)).heap.size = ((w1.alloc (.cells #[.int .i64 za, .slice ada la.length ca] 34)).alloc (.cells #[.int .i64 ab, .slice adb lb.length cb] 38)).heap.size + 1 := World.size_alloc _ _
 have a_t10 := a_t7.next hb_t9
 clear a_t7
 have b_t10 := b_t7.next hb_t9
 clear b_t7
 have Ba_t10 := Ba_t7.next hb_t9
 clear Ba_t7
 have Bb_t10 := Bb_t6.next hb_t9
 clear Bb_t6
 have hw_t10 := below_next hw_t7 hb_t9
 have hs_t10 := hb_t9.size
 have hpl := wputW_length za la ab lb x (by omega)
 obtain ⟨RA, RW, RC, HRR⟩ : ∃ RA RW RC, Hid (wputA za la ab lb = RA ∧ wputW za la ab lb x = RW ∧ wputC za la ab lb x = RC) := ⟨_, _, _, Lib.hid ⟨rfl, rfl, rfl⟩⟩
 rw [HRR.out.2.1] at hpl
 have qBa0 : (((w1.alloc (.cells #[.int .i64 za, .slice ada la.length ca] 34)).alloc (.cells #[.int .i64 ab, .slice adb lb.length cb] 38)).alloc (.cells #[.string x.k, .int .i64 x.n, .bool x.g] 52)).cell? ⟨w1.heap.size, 0, none⟩ = some (.int .i64 za) := by rw [Ba_t10.cell]; rfl
 have qBa1 : (((w1.alloc (.cells #[.int .i64 za, .slice ada la.length ca] 34)).alloc (.cells #[.int .i64 ab, .slice adb lb.length cb] 38)).alloc (.cells #[.string x.k, .int .i64 x.n, .bool x.g] 52)).cell? ⟨w1.heap.size, 1, none⟩ = some (.slice ada la.length ca) := by rw [Ba_t10.cell]; rfl
 have qBb0 : (((w1.alloc (.cells #[.int .i64 za, .slice ada la.length ca] 34)).alloc (.cells #[.int .i64 ab, .slice adb lb.length cb] 38)).alloc (.cells #[.string x.k, .int .i64 x.n, .bool x.g] 52)).cell? ⟨w1.heap.size + 1, 0, none⟩ = some (.int .i64 ab) := by rw [Bb_t10.cell]; rfl
 have qBb1 : (((w1.alloc (.cells #[.int .i64 za, .slice ada la.length ca] 34)).alloc (.cells #[.int .i64 ab, .slice adb lb.length cb] 38)).alloc (.cells #[.string x.k, .int .i64 x.n, .bool x.g] 52)).cell? ⟨w1.heap.size + 1, 1, none⟩ = some (.slice adb lb.length cb) := by rw [Bb_t10.cell]; rfl
 have qBx0 : (((w1.alloc (.cells #[.int .i64 za, .slice ada la.length ca] 34)).alloc (.cells #[.int .i64 ab, .slice adb lb.length cb] 38)).alloc (.cells #[.string x.k, .int .i64 x.n, .bool x.g] 52)).cell? ⟨w1.heap.size + 1 + 1, 0, none⟩ = some (.string x.k) := by rw [Bx_t9.cell]; rfl
 have qBx1 : (((w1.alloc (.cells #[.int .i64 za, .slice ada la.length ca] 34)).alloc (.cells #[.int .i64 ab, .slice adb lb.length cb] 38)).alloc (.cells #[.string x.k, .int .i64 x.n, .bool x.g] 52)).cell? ⟨w1.heap.size + 1 + 1, 1, none⟩ = some (.int .i64 x.n) := by rw [Bx_t9.cell]; rfl
 have qBx2 : (((w1.alloc (.cells #[.int .i64 za, .slice ada la.length ca] 34)).alloc (.cells #[.int .i64 ab, .slice adb lb.length cb] 38)).alloc (.cells #[.string x.k, .int .i64 x.n, .bool x.g] 52)).cell? ⟨w1.heap.size + 1 + 1, 2, none⟩ = some (.bool x.g) := by rw [Bx_t9.cell]; rfl
 go_wp2_with fail
 clear qBa0 qBa1 qBb0 qBb1 qBx0 qBx1 qBx2
 refine (implWorkPutO a_t10 b_t10 hfa hfb hx (by omega) (by omega)).mono ?_
 rw [HRR.out.1, HRR.out.2.1, HRR.out.2.2]
 rintro e w2 ⟨Vy, rfl, y_n, hb2⟩
 obtain ⟨ady, cy, rfl, ry1_y, ry2_y, ry3_y⟩ := y_n.read
 clear ry1_y ry2_y ry3_y
 have a_t12 := a_t10.next hb2
 clear a_t10
 have b_t12 := b_t10.next hb2
 clear b_t10
 have Ba_t12 := Ba_t10.next hb2
 clear Ba_t10
 have Bb_t12 := Bb_t10.next hb2
 clear Bb_t10
 have Bx_t12 := Bx_t9.next hb2
 clear Bx_t9
 have hw_t12 := below_next hw_t10 hb2
 have hs_t12 := hb2.size
 have hb_t14 := below_alloc (Below.refl _ w2) (.cells #[.int .i64 RA, .slice ady RW.length cy] 38)
 have By_t14 := blkA w2 #[.int .i64 RA, .slice ady RW.length cy] 38
 have hz_t14 : (w2.alloc (.cells #[.int .i64 RA, .slice ady RW.length cy] 38)).heap.size = w2.heap.size + 1 := World.size_alloc _ _
 have a_t15 := a_t12.next hb_t14
 clear a_t12
 have b_t15 := b_t12.next hb_t14
 clear b_t12
 have y_t15 := y_n.next hb_t14
 clear y_n
 have Ba_t15 := Ba_t12.next hb_t14
 clear Ba_t12
 have Bb_t15 := Bb_t12.next hb_t14
 clear Bb_t12
 have Bx_t15 := Bx_t12.next hb_t14
 clear Bx_t12
 have hw_t15 := below_next hw_t12 hb_t14
 have hs_t15 := hb_t14.size
 have qBa0 : (w2.alloc (.cells #[.int .i64 RA, .slice ady RW.length cy] 38)).cell? ⟨w1.heap.size, 0, none⟩ = some (.int .i64 za) := by rw [Ba_t15.cell]; rfl
 have qBa1 : (w2.alloc (.cells #[.int .i64 RA, .slice ady RW.length cy] 38)).cell? ⟨w1.heap.size, 1, none⟩ = some (.slice ada la.length ca) := by rw [Ba_t15.cell]; rfl
 have qBb0 : (w2.alloc (.cells #[.int .i64 RA, .slice ady RW.length cy] 38)).cell? ⟨w1.heap.size + 1, 0, none⟩ = some (.int .i64 ab) := by rw [Bb_t15.cell]; rfl
 have qBb1 : (w2.alloc (.cells #[.int .i64 RA, .slice ady RW.length cy] 38)).cell? ⟨w1.heap.size + 1, 1, none⟩ = some (.slice adb lb.length cb) := by rw [Bb_t15.cell]; rfl
 have qBx0 : (w2.alloc (.cells #[.int .i64 RA, .slice ady RW.length cy] 38)).cell? ⟨w1.heap.size + 1 + 1, 0, none⟩ = some (.string x.k) := by rw [Bx_t15.cell]; rfl
 have qBx1 : (w2.alloc (.cells #[.int .i64 RA, .slice ady RW.length cy] 38)).cell? ⟨w1.heap.size + 1 + 1, 1, none⟩ = some (.int .i64 x.n) := by rw [Bx_t15.cell]; rfl
 have qBx2 : (w2.alloc (.cells #[.int .i64 RA, .slice ady RW.length cy] 38)).cell? ⟨w1.heap.size + 1 + 1, 2, none⟩ = some (.bool x.g) := by rw [Bx_t15.cell]; rfl
 have qBy0 : (w2.alloc (.cells #[.int .i64 RA, .slice ady RW.length cy] 38)).cell? ⟨w2.heap.size, 0, none⟩ = some (.int .i64 RA) := by rw [By_t14.cell]; rfl
 have qBy1 : (w2.alloc (.cells #[.int .i64 RA, .slice ady RW.length cy] 38)).cell? ⟨w2.heap.size, 1, none⟩ = some (.slice ady RW.length cy) := by rw [By_t14.cell]; rfl
 go_wp2_with fail
 clear qBa0 qBa1 qBb0 qBb1 qBx0 qBx1 qBx2 qBy0 qBy1
 refine (specWorkPutO a_t15 b_t15 hfa hfb hx (by omega) (by omega)).mono ?_
 rw [HRR.out.1, HRR.out.2.1, HRR.out.2.2]
 rintro e w3 ⟨Vz, rfl, z_n, hb3⟩
 obtain ⟨adz, cz, rfl, ry1_z, ry2_z, ry3_z⟩ := z_n.read
 clear ry1_z ry2_z ry3_z
 have a_t17 := a_t15.next hb3
 clear a_t15
 have b_t17 := b_t15.next hb3
 clear b_t15
 have y_t17 := y_t15.next hb3
 clear y_t15
 have Ba_t17 := Ba_t15.next hb3
 clear Ba_t15
 have Bb_t17 := Bb_t15.next hb3
 clear Bb_t15
 have Bx_t17 := Bx_t15.next hb3
 clear Bx_t15
 have By_t17 := By_t14.next hb3
 clear By_t14
 have hw_t17 := below_next hw_t15 hb3
 have hs_t17 := hb3.size
 have hb_t19 := below_alloc (Below.refl _ w3) (.cells #[.int .i64 RA, .slice adz RW.length cz] 38)
 have Bz_t19 := blkA w3 #[.int .i64 RA, .slice adz RW.length cz] 38
 have hz_t19 : (w3.alloc (.cells #[.int .i64 RA, .slice adz RW.length cz] 38)).heap.size = w3.heap.size + 1 := World.size_alloc _ _
 have a_t20 := a_t17.next hb_t19
 clear a_t17
 have b_t20 := b_t17.next hb_t19
 clear b_t17
 have y_t20 := y_t17.next hb_t19
 clear y_t17
 have z_t20 := z_n.next hb_t19
 clear z_n
 have Ba_t20 := Ba_t17.next hb_t19
 clear Ba_t17
 have Bb_t20 := Bb_t17.next hb_t19
 clear Bb_t17
 have Bx_t20 := Bx_t17.next hb_t19
 clear Bx_t17
 have By_t20 := By_t17.next hb_t19
 clear By_t17
 have hw_t20 := below_next hw_t17 hb_t19
 have hs_t20 := hb_t19.size
 clear z_t20
 have hrc : (RC != RC) = false := by simp
 have hrd : (RC == RC) = true := by simp
 by_cases hc : RC = 0
 ·
  subst hc
  obtain ⟨hl6, hp6, e1, e2⟩ := fine_put HRR.out.2.2
  have hRA : ab = RA := e1.symm.trans HRR.out.1
  have HRW : Hid (RW = putXs lb x) := Lib.hid (HRR.out.2.1.symm.trans e2)
  have HC0 : Hid (wputC za la ab lb x = 0) := Lib.hid HRR.out.2.2
  rw [← HRW.out] at hp6
  have hfW : FitXs RW := by rw [HRW.out]; exact hfb.putXs hx
  clear HRR e1 e2
  subst hRA
  clear hrc hrd
  have HT := twice_put HC0.out
  rw [← HRW.out] at HT
  have HT := Lib.hid HT
  have hxo : FitX (⟨x.k, 3, false⟩ : X) := ⟨hx.1, by show (-9223372036854775808 : Int) ≤ 3; omega, by show (3 : Int) ≤ 9223372036854775807; omega⟩
  have hA := (fine_put HC0.out).2.2.1
  have HA := Lib.hid hA
  clear hA
  have qBa0 : (w3.alloc (.cells #[.int .i64 ab, .slice adz RW.length cz] 38)).cell? ⟨w1.heap.size, 0, none⟩ = some (.int .i64 za) := by rw [Ba_t20.cell]; rfl
  have qBa1 : (w3.alloc (.cells #[.int .i64 ab, .slice adz RW.length cz] 38)).cell? ⟨w1.heap.size, 1, none⟩ = some (.slice ada la.length ca) := by rw [Ba_t20.cell]; rfl
  have qBb0 : (w3.alloc (.cells #[.int .i64 ab, .slice adz RW.length cz] 38)).cell? ⟨w1.heap.size + 1, 0, none⟩ = some (.int .i64 ab) := by rw [Bb_t20.cell]; rfl
  have qBb1 : (w3.alloc (.cells #[.int .i64 ab, .slice adz RW.length cz] 38)).cell? ⟨w1.heap.size + 1, 1, none⟩ = some (.slice adb lb.length cb) := by rw [Bb_t20.cell]; rfl
  have qBx0 : (w3.alloc (.cells #[.int .i64 ab, .slice adz RW.length cz] 38)).cell? ⟨w1.heap.size + 1 + 1, 0, none⟩ = some (.string x.k) := by rw [Bx_t20.cell]; rfl
  have qBx1 : (w3.alloc (.cells #[.int .i64 ab, .slice adz RW.length cz] 38)).cell? ⟨w1.heap.size + 1 + 1, 1, none⟩ = some (.int .i64 x.n) := by rw [Bx_t20.cell]; rfl
  have qBx2 : (w3.alloc (.cells #[.int .i64 ab, .slice adz RW.length cz] 38)).cell? ⟨w1.heap.size + 1 + 1, 2, none⟩ = some (.bool x.g) := by rw [Bx_t20.cell]; rfl
  have qBy0 : (w3.alloc (.cells #[.int .i64 ab, .slice adz RW.length cz] 38)).cell? ⟨w2.heap.size, 0, none⟩ = some (.int .i64 ab) := by rw [By_t20.cell]; rfl
  have qBy1 : (w3.alloc (.cells #[.int .i64 ab, .slice adz RW.length cz] 38)).cell? ⟨w2.heap.size, 1, none⟩ = some (.slice ady RW.length cy) := by rw [By_t20.cell]; rfl
  go_wp2_with fail
  clear qBa0 qBa1 qBb0 qBb1 qBx0 qBx1 qBx2 qBy0 qBy1
  refine (implWorkPutO a_t20 y_t20 hfa hfW hx (by omega) (by omega)).mono ?_
  rw [HT.out.2.1, HT.out.2.2.1, HT.out.1]
  rintro e w4 ⟨Vu, rfl, u_n, hb4⟩
  obtain ⟨adu, cu, rfl, ry1_u, ry2_u, ry3_u⟩ := u_n.read
  clear ry1_u ry2_u ry3_u
  have a_t22 := a_t20.next hb4
  clear a_t20
  have b_t22 := b_t20.next hb4
  clear b_t20
  have y_t22 := y_t20.next hb4
  clear y_t20
  have Ba_t22 := Ba_t20.next hb4
  clear Ba_t20
  have Bb_t22 := Bb_t20.next hb4
  clear Bb_t20
  have Bx_t22 := Bx_t20.next hb4
  clear Bx_t20
  have By_t22 := By_t20.next hb4
  clear By_t20
  have hw_t22 := below_next hw_t20 hb4
  have hs_t22 := hb4.size
  have hb_t24 := below_alloc (Below.refl _ w4) (.cells #[.int .i64 ab, .slice adu RW.length cu] 38)
  have Bu_t24 := blkA w4 #[.int .i64 ab, .slice adu RW.length cu] 38
  have hz_t24 : (w4.alloc (.cells #[.int .i64 ab, .slice adu RW.length cu] 38)).heap.size = w4.heap.size + 1 := World.size_alloc _ _
  have a_t25 := a_t22.next hb_t24
  clear a_t22
  have b_t25 := b_t22.next hb_t24
  clear b_t22
  have y_t25 := y_t22.next hb_t24
  clear y_t22
  have u_t25 := u_n.next hb_t24
  clear u_n
  have Ba_t25 := Ba_t22.next hb_t24
  clear Ba_t22
  have Bb_t25 := Bb_t22.next hb_t24
  clear Bb_t22
  have Bx_t25 := Bx_t22.next hb_t24
  clear Bx_t22
  have By_t25 := By_t22.next hb_t24
  clear By_t22
  have hw_t25 := below_next hw_t22 hb_t24
  have hs_t25 := hb_t24.size
  have rBa0 : (w4.alloc (.cells #[.int .i64 ab, .slice adu RW.length cu] 38)).cell? ⟨w1.heap.size, 0, none⟩ = some (.int .i64 za) := by rw [Ba_t25.cell]; rfl
  have rBa1 : (w4.alloc (.cells #[.int .i64 ab, .slice adu RW.length cu] 38)).cell? ⟨w1.heap.size, 1, none⟩ = some (.slice ada la.length ca) := by rw [Ba_t25.cell]; rfl
  have rBb0 : (w4.alloc (.cells #[.int .i64 ab, .slice adu RW.length cu] 38)).cell? ⟨w1.heap.size + 1, 0, none⟩ = some (.int .i64 ab) := by rw [Bb_t25.cell]; rfl
  have rBb1 : (w4.alloc (.cells #[.int .i64 ab, .slice adu RW.length cu] 38)).cell? ⟨w1.heap.size + 1, 1, none⟩ = some (.slice adb lb.length cb) := by rw [Bb_t25.cell]; rfl
  have rBx0 : (w4.alloc (.cells #[.int .i64 ab, .slice adu RW.length cu] 38)).cell? ⟨w1.heap.size + 1 + 1, 0, none⟩ = some (.string x.k) := by rw [Bx_t25.cell]; rfl
  have rBx1 : (w4.alloc (.cells #[.int .i64 ab, .slice adu RW.length cu] 38)).cell? ⟨w1.heap.size + 1 + 1, 1, none⟩ = some (.int .i64 x.n) := by rw [Bx_t25.cell]; rfl
  have rBx2 : (w4.alloc (.cells #[.int .i64 ab, .slice adu RW.length cu] 38)).cell? ⟨w1.heap.size + 1 + 1, 2, none⟩ = some (.bool x.g) := by rw [Bx_t25.cell]; rfl
  have rBy0 : (w4.alloc (.cells #[.int .i64 ab, .slice adu RW.length cu] 38)).cell? ⟨w2.heap.size, 0, none⟩ = some (.int .i64 ab) := by rw [By_t25.cell]; rfl
  have rBy1 : (w4.alloc (.cells #[.int .i64 ab, .slice adu RW.length cu] 38)).cell? ⟨w2.heap.size, 1, none⟩ = some (.slice ady RW.length cy) := by rw [By_t25.cell]; rfl
  have rBu0 : (w4.alloc (.cells #[.int .i64 ab, .slice adu RW.length cu] 38)).cell? ⟨w4.heap.size, 0, none⟩ = some (.int .i64 ab) := by rw [Bu_t24.cell]; rfl
  have rBu1 : (w4.alloc (.cells #[.int .i64 ab, .slice adu RW.length cu] 38)).cell? ⟨w4.heap.size, 1, none⟩ = some (.slice adu RW.length cu) := by rw [Bu_t24.cell]; rfl
  have hb_t27 := below_alloc (Below.refl _ (w4.alloc (.cells #[.int .i64 ab, .slice adu RW.length cu] 38))) (.cells #[.string x.k, .int .i64 3, .bool false] 52)
  have Bo_t27 := blkA (w4.alloc (.cells #[.int .i64 ab, .slice adu RW.length cu] 38)) #[.string x.k, .int .i64 3, .bool false] 52
  simp only [World.size_alloc] at Bo_t27
  have hz_t27 : ((w4.alloc (.cells #[.int .i64 ab, .slice adu RW.length cu] 38)).alloc (.cells #[.string x.k, .int .i64 3, .bool false] 52)).heap.size = (w4.alloc (.cells #[.int .i64 ab, .slice adu RW.length cu] 38)).heap.size + 1 := World.size_alloc _ _
  have a_t28 := a_t25.next hb_t27
  clear a_t25
  have b_t28 := b_t25.next hb_t27
  clear b_t25
  have y_t28 := y_t25.next hb_t27
  clear y_t25
  have u_t28 := u_t25.next hb_t27
  clear u_t25
  have Ba_t28 := Ba_t25.next hb_t27
  clear Ba_t25
  have Bb_t28 := Bb_t25.next hb_t27
  clear Bb_t25
  have Bx_t28 := Bx_t25.next hb_t27
  clear Bx_t25
  have By_t28 := By_t25.next hb_t27
  clear By_t25
  have Bu_t28 := Bu_t24.next hb_t27
  clear Bu_t24
  have hw_t28 := below_next hw_t25 hb_t27
  have hs_t28 := hb_t27.size
  have hsl := wputW_length za la ab lb (⟨x.k, 3, false⟩ : X) (by omega)
  obtain ⟨SW, SC, HSS⟩ : ∃ SW SC, Hid (wputW za la ab lb (⟨x.k, 3, false⟩ : X) = SW ∧ wputC za la ab lb (⟨x.k, 3, false⟩ : X) = SC) := ⟨_, _, Lib.hid ⟨rfl, rfl⟩⟩
  rw [HSS.out.1] at hsl
  have htl := wputW_length za la ab RW (⟨x.k, 3, false⟩ : X) (by omega)
  by_cases hs : SC = 0
  ·
   subst hs
   have HTT := HT.out.2.2.2 (⟨x.k, 3, false⟩ : X) rfl HSS.out.2
   rw [HSS.out.1] at HTT
   have HTT := Lib.hid HTT
   clear htl
   have qBa0 : ((w4.alloc (.cells #[.int .i64 ab, .slice adu RW.length cu] 38)).alloc (.cells #[.string x.k, .int .i64 3, .bool false] 52)).cell? ⟨w1.heap.size, 0, none⟩ = some (.int .i64 za) := by rw [Ba_t28.cell]; rfl
   have qBa1 : ((w4.alloc (.cells #[.int .i64 ab, .slice adu RW.length cu] 38)).alloc (.cells #[.string x.k, .int .i64 3, .bool false] 52)).cell? ⟨w1.heap.size, 1, none⟩ = some (.slice ada la.length ca) := by rw [Ba_t28.cell]; rfl
   have qBb0 : ((w4.alloc (.cells #[.int .i64 ab, .slice adu RW.length cu] 38)).alloc (.cells #[.string x.k, .int .i64 3, .bool false] 52)).cell? ⟨w1.heap.size + 1, 0, none⟩ = some (.int .i64 ab) := by rw [Bb_t28.cell]; rfl
   have qBb1 : ((w4.alloc (.cells #[.int .i64 ab, .slice adu RW.length cu] 38)).alloc (.cells #[.string x.k, .int .i64 3, .bool false] 52)).cell? ⟨w1.heap.size + 1, 1, none⟩ = some (.slice adb lb.length cb) := by rw [Bb_t28.cell]; rfl
   have qBx0 : ((w4.alloc (.cells #[.int .i64 ab, .slice adu RW.length cu] 38)).alloc (.cells #[.string x.k, .int .i64 3, .bool false] 52)).cell? ⟨w1.heap.size + 1 + 1, 0, none⟩ = some (.string x.k) := by rw [Bx_t28.cell]; rfl
   have qBx1 : ((w4.alloc (.cells #[.int .i64 ab, .slice adu RW.length cu] 38)).alloc (.cells #[.string x.k, .int .i64 3, .bool false] 52)).cell? ⟨w1.heap.size + 1 + 1, 1, none⟩ = some (.int .i64 x.n) := by rw [Bx_t28.cell]; rfl
   have qBx2 : ((w4.alloc (.cells #[.int .i64 ab, .slice adu RW.length cu] 38)).alloc (.cells #[.string x.k, .int .i64 3, .bool false] 52)).cell? ⟨w1.heap.size + 1 + 1, 2, none⟩ = some (.bool x.g) := by rw [Bx_t28.cell]; rfl
   have qBy0 : ((w4.alloc (.cells #[.int .i64 ab, .slice adu RW.length cu] 38)).alloc (.cells #[.string x.k, .int .i64 3, .bool false] 52)).cell? ⟨w2.heap.size, 0, none⟩ = some (.int .i64 ab) := by rw [By_t28.cell]; rfl
   have qBy1 : ((w4.alloc (.cells #[.int .i64 ab, .slice adu RW.length cu] 38)).alloc (.cells #[.string x.k, .int .i64 3, .bool false] 52)).cell? ⟨w2.heap.size, 1, none⟩ = some (.slice ady RW.length cy) := by rw [By_t28.cell]; rfl
   have qBu0 : ((w4.alloc (.cells #[.int .i64 ab, .slice adu RW.length cu] 38)).alloc (.cells #[.string x.k, .int .i64 3, .bool false] 52)).cell? ⟨w4.heap.size, 0, none⟩ = some (.int .i64 ab) := by rw [Bu_t28.cell]; rfl
   have qBu1 : ((w4.alloc (.cells #[.int .i64 ab, .slice adu RW.length cu] 38)).alloc (.cells #[.string x.k, .int .i64 3, .bool false] 52)).cell? ⟨w4.heap.size, 1, none⟩ = some (.slice adu RW.length cu) := by rw [Bu_t28.cell]; rfl
   have qBo0 : ((w4.alloc (.cells #[.int .i64 ab, .slice adu RW.length cu] 38)).alloc (.cells #[.string x.k, .int .i64 3, .bool false] 52)).cell? ⟨w4.heap.size + 1, 0, none⟩ = some (.string x.k) := by rw [Bo_t27.cell]; rfl
   have qBo1 : ((w4.alloc (.cells #[.int .i64 ab, .slice adu RW.length cu] 38)).alloc (.cells #[.string x.k, .int .i64 3, .bool false] 52)).cell? ⟨w4.heap.size + 1, 1, none⟩ = some (.int .i64 3) := by rw [Bo_t27.cell]; rfl
   have qBo2 : ((w4.alloc (.cells #[.int .i64 ab, .slice adu RW.length cu] 38)).alloc (.cells #[.string x.k, .int .i64 3, .bool false] 52)).cell? ⟨w4.heap.size + 1, 2, none⟩ = some (.bool false) := by rw [Bo_t27.cell]; rfl
   go_wp2_with fail
   clear qBa0 qBa1 qBb0 qBb1 qBx0 qBx1 qBx2 qBy0 qBy1 qBu0 qBu1 qBo0 qBo1 qBo2
   refine (implWorkPutO a_t28 b_t28 hfa hfb hxo (by omega) (by omega)).mono ?_
   rw [HA.out, HSS.out.1, HSS.out.2]
   rintro e w5 ⟨Vs, rfl, s_n, hb5⟩
   obtain ⟨ads, cs, rfl, ry1_s, ry2_s, ry3_s⟩ := s_n.read
   clear ry1_s ry2_s ry3_s
   have a_t30 := a_t28.next hb5
   clear a_t28
   have b_t30 := b_t28.next hb5
   clear b_t28
   have y_t30 := y_t28.next hb5
   clear y_t28
   have u_t30 := u_t28.next hb5
   clear u_t28
   have Ba_t30 := Ba_t28.next hb5
   clear Ba_t28
   have Bb_t30 := Bb_t28.next hb5
   clear Bb_t28
   have Bx_t30 := Bx_t28.next hb5
   clear Bx_t28
   have By_t30 := By_t28.next hb5
   clear By_t28
   have Bu_t30 := Bu_t28.next hb5
   clear Bu_t28
   have Bo_t30 := Bo_t27.next hb5
   clear Bo_t27
   have hw_t30 := below_next hw_t28 hb5
   have hs_t30 := hb5.size
   have hb_t32 := below_alloc (Below.refl _ w5) (.cells #[.int .i64 ab, .slice ads SW.length cs] 38)
   have Bs_t32 := blkA w5 #[.int .i64 ab, .slice ads SW.length cs] 38
   have hz_t32 : (w5.alloc (.cells #[.int .i64 ab, .slice ads SW.length cs] 38)).heap.size = w5.heap.size + 1 := World.size_alloc _ _
   have a_t33 := a_t30.next hb_t32
   clear a_t30
   have b_t33 := b_t30.next hb_t32
   clear b_t30
   have y_t33 := y_t30.next hb_t32
   clear y_t30
   have u_t33 := u_t30.next hb_t32
   clear u_t30
   have s_t33 := s_n.next hb_t32
   clear s_n
   have Ba_t33 := Ba_t30.next hb_t32
   clear Ba_t30
   have Bb_t33 := Bb_t30.next hb_t32
   clear Bb_t30
   have Bx_t33 := Bx_t30.next hb_t32
   clear Bx_t30
   have By_t33 := By_t30.next hb_t32
   clear By_t30
   have Bu_t33 := Bu_t30.next hb_t32
   clear Bu_t30
   have Bo_t33 := Bo_t30.next hb_t32
   clear Bo_t30
   have hw_t33 := below_next hw_t30 hb_t32
   have hs_t33 := hb_t32.size
   have qBa0 : (w5.alloc (.cells #[.int .i64 ab, .slice ads SW.length cs] 38)).cell? ⟨w1.heap.size, 0, none⟩ = some (.int .i64 za) := by rw [Ba_t33.cell]; rfl
   have qBa1 : (w5.alloc (.cells #[.int .i64 ab, .slice ads SW.length cs] 38)).cell? ⟨w1.heap.size, 1, none⟩ = some (.slice ada la.length ca) := by rw [Ba_t33.cell]; rfl
   have qBb0 : (w5.alloc (.cells #[.int .i64 ab, .slice ads SW.length cs] 38)).cell? ⟨w1.heap.size + 1, 0, none⟩ = some (.int .i64 ab) := by rw [Bb_t33.cell]; rfl
   have qBb1 : (w5.alloc (.cells #[.int .i64 ab, .slice ads SW.length cs] 38)).cell? ⟨w1.heap.size + 1, 1, none⟩ = some (.slice adb lb.length cb) := by rw [Bb_t33.cell]; rfl
   have qBx0 : (w5.alloc (.cells #[.int .i64 ab, .slice ads SW.length cs] 38)).cell? ⟨w1.heap.size + 1 + 1, 0, none⟩ = some (.string x.k) := by rw [Bx_t33.cell]; rfl
   have qBx1 : (w5.alloc (.cells #[.int .i64 ab, .slice ads SW.length cs] 38)).cell? ⟨w1.heap.size + 1 + 1, 1, none⟩ = some (.int .i64 x.n) := by rw [Bx_t33.cell]; rfl
   have qBx2 : (w5.alloc (.cells #[.int .i64 ab, .slice ads SW.length cs] 38)).cell? ⟨w1.heap.size + 1 + 1, 2, none⟩ = some (.bool x.g) := by rw [Bx_t33.cell]; rfl
   have qBy0 : (w5.alloc (.cells #[.int .i64 ab, .slice ads SW.length cs] 38)).cell? ⟨w2.heap.size, 0, none⟩ = some (.int .i64 ab) := by rw [By_t33.cell]; rfl
   have qBy1 : (w5.alloc (.cells #[.int .i64 ab, .slice ads SW.length cs] 38)).cell? ⟨w2.heap.size, 1, none⟩ = some (.slice ady RW.length cy) := by rw [By_t33.cell]; rfl
   have qBu0 : (w5.alloc (.cells #[.int .i64 ab, .slice ads SW.length cs] 38)).cell? ⟨w4.heap.size, 0, none⟩ = some (.int .i64 ab) := by rw [Bu_t33.cell]; rfl
   have qBu1 : (w5.alloc (.cells #[.int .i64 ab, .slice ads SW.length cs] 38)).cell? ⟨w4.heap.size, 1, none⟩ = some (.slice adu RW.length cu) := by rw [Bu_t33.cell]; rfl
   have qBo0 : (w5.alloc (.cells #[.int .i64 ab, .slice ads SW.length cs] 38)).cell? ⟨w4.heap.size + 1, 0, none⟩ = some (.string x.k) := by rw [Bo_t33.cell]; rfl
   have qBo1 : (w5.alloc (.cells #[.int .i64 ab, .slice ads SW.length cs] 38)).cell? ⟨w4.heap.size + 1, 1, none⟩ = some (.int .i64 3) := by rw [Bo_t33.cell]; rfl
   have qBo2 : (w5.alloc (.cells #[.int .i64 ab, .slice ads SW.length cs] 38)).cell? ⟨w4.heap.size + 1, 2, none⟩ = some (.bool false) := by rw [Bo_t33.cell]; rfl
   have qBs0 : (w5.alloc (.cells #[.int .i64 ab, .slice ads SW.length cs] 38)).cell? ⟨w5.heap.size, 0, none⟩ = some (.int .i64 ab) := by rw [Bs_t32.cell]; rfl
   have qBs1 : (w5.alloc (.cells #[.int .i64 ab, .slice ads SW.length cs] 38)).cell? ⟨w5.heap.size, 1, none⟩ = some (.slice ads SW.length cs) := by rw [Bs_t32.cell]; rfl
   go_wp2_with fail
   clear qBa0 qBa1 qBb0 qBb1 qBx0 qBx1 qBx2 qBy0 qBy1 qBu0 qBu1 qBo0 qBo1 qBo2 qBs0 qBs1
   refine (implWorkPutO a_t33 y_t33 hfa hfW hxo (by omega) (by omega)).mono ?_
   rw [HT.out.2.1, HTT.out.2, HTT.out.1]
   rintro e w6 ⟨Vt, rfl, t_n, hb6⟩
   obtain ⟨adt, ct, rfl, ry1_t, ry2_t, ry3_t⟩ := t_n.read
   clear ry1_t ry2_t ry3_t
   have a_t35 := a_t33.next hb6
   clear a_t33
   have b_t35 := b_t33.next hb6
   clear b_t33
   have y_t35 := y_t33.next hb6
   clear y_t33
   have u_t35 := u_t33.next hb6
   clear u_t33
   have s_t35 := s_t33.next hb6
   clear s_t33
   have Ba_t35 := Ba_t33.next hb6
   clear Ba_t33
   have Bb_t35 := Bb_t33.next hb6
   clear Bb_t33
   have Bx_t35 := Bx_t33.next hb6
   clear Bx_t33
   have By_t35 := By_t33.next hb6
   clear By_t33
   have Bu_t35 := Bu_t33.next hb6
   clear Bu_t33
   have Bo_t35 := Bo_t33.next hb6
   clear Bo_t33
   have Bs_t35 := Bs_t32.next hb6
   clear Bs_t32
   have hw_t35 := below_next hw_t33 hb6
   have hs_t35 := hb6.size
   have hb_t37 := below_alloc (Below.refl _ w6) (.cells #[.int .i64 ab, .slice adt SW.length ct] 38)
   have Bt_t37 := blkA w6 #[.int .i64 ab, .slice adt SW.length ct] 38
   have hz_t37 : (w6.alloc (.cells #[.int .i64 ab, .slice adt SW.length ct] 38)).heap.size = w6.heap.size + 1 := World.size_alloc _ _
   have a_t38 := a_t35.next hb_t37
   clear a_t35
   have b_t38 := b_t35.next hb_t37
   clear b_t35
   have y_t38 := y_t35.next hb_t37
   clear y_t35
   have u_t38 := u_t35.next hb_t37
   clear u_t35
   have s_t38 := s_t35.next hb_t37
   clear s_t35
   have t_t38 := t_n.next hb_t37
   clear t_n
   have Ba_t38 := Ba_t35.next hb_t37
   clear Ba_t35
   have Bb_t38 := Bb_t35.next hb_t37
   clear Bb_t35
   have Bx_t38 := Bx_t35.next hb_t37
   clear Bx_t35
   have By_t38 := By_t35.next hb_t37
   clear By_t35
   have Bu_t38 := Bu_t35.next hb_t37
   clear Bu_t35
   have Bo_t38 := Bo_t35.next hb_t37
   clear Bo_t35
   have Bs_t38 := Bs_t35.next hb_t37
   clear Bs_t35
   have hw_t38 := below_next hw_t35 hb_t37
   have hs_t38 := hb_t37.size
   have qBa0 : (w6.alloc (.cells #[.int .i64 ab, .slice adt SW.length ct] 38)).cell? ⟨w1.heap.size, 0, none⟩ = some (.int .i64 za) := by rw [Ba_t38.cell]; rfl
   have qBa1 : (w6.alloc (.cells #[.int .i64 ab, .slice adt SW.length ct] 38)).cell? ⟨w1.heap.size, 1, none⟩ = some (.slice ada la.length ca) := by rw [Ba_t38.cell]; rfl
   have qBb0 : (w6.alloc (.cells #[.int .i64 ab, .slice adt SW.length ct] 38)).cell? ⟨w1.heap.size + 1, 0, none⟩ = some (.int .i64 ab) := by rw [Bb_t38.cell]; rfl
   have qBb1 : (w6.alloc (.cells #[.int .i64 ab, .slice adt SW.length ct] 38)).cell? ⟨w1.heap.size + 1, 1, none⟩ = some (.slice adb lb.length cb) := by rw [Bb_t38.cell]; rfl
   have qBx0 : (w6.alloc (.cells #[.int .i64 ab, .slice adt SW.length ct] 38)).cell? ⟨w1.heap.size + 1 + 1, 0, none⟩ = some (.string x.k) := by rw [Bx_t38.cell]; rfl
   have qBx1 : (w6.alloc (.cells #[.int .i64 ab, .slice adt SW.length ct] 38)).cell? ⟨w1.heap.size + 1 + 1, 1, none⟩ = some (.int .i64 x.n) := by rw [Bx_t38.cell]; rfl
   have qBx2 : (w6.alloc (.cells #[.int .i64 ab, .slice adt SW.length ct] 38)).cell? ⟨w1.heap.size + 1 + 1, 2, none⟩ = some (.bool x.g) := by rw [Bx_t38.cell]; rfl
   have qBy0 : (w6.alloc (.cells #[.int .i64 ab, .slice adt SW.length ct] 38)).cell? ⟨w2.heap.size, 0, none⟩ = some (.int .i64 ab) := by rw [By_t38.cell]; rfl
   have qBy1 : (w6.alloc (.cells #[.int .i64 ab, .slice adt SW.length ct] 38)).cell? ⟨w2.heap.size, 1, none⟩ = some (.slice ady RW.length cy) := by rw [By_t38.cell]; rfl
   have qBu0 : (w6.alloc (.cells #[.int .i64 ab, .slice adt SW.length ct] 38)).cell? ⟨w4.heap.size, 0, none⟩ = some (.int .i64 ab) := by rw [Bu_t38.cell]; rfl
   have qBu1 : (w6.alloc (.cells #[.int .i64 ab, .slice adt SW.length ct] 38)).cell? ⟨w4.heap.size, 1, none⟩ = some (.slice adu RW.length cu) := by rw [Bu_t38.cell]; rfl
   have qBo0 : (w6.alloc (.cells #[.int .i64 ab, .slice adt SW.length ct] 38)).cell? ⟨w4.heap.size + 1, 0, none⟩ = some (.string x.k) := by rw [Bo_t38.cell]; rfl
   have qBo1 : (w6.alloc (.cells #[.int .i64 ab, .slice adt SW.length ct] 38)).cell? ⟨w4.heap.size + 1, 1, none⟩ = some (.int .i64 3) := by rw [Bo_t38.cell]; rfl
   have qBo2 : (w6.alloc (.cells #[.int .i64 ab, .slice adt SW.length ct] 38)).cell? ⟨w4.heap.size + 1, 2, none⟩ = some (.bool false) := by rw [Bo_t38.cell]; rfl
   have qBs0 : (w6.alloc (.cells #[.int .i64 ab, .slice adt SW.length ct] 38)).cell? ⟨w5.heap.size, 0, none⟩ = some (.int .i64 ab) := by rw [Bs_t38.cell]; rfl
   have qBs1 : (w6.alloc (.cells #[.int .i64 ab, .slice adt SW.length ct] 38)).cell? ⟨w5.heap.size, 1, none⟩ = some (.slice ads SW.length cs) := by rw [Bs_t38.cell]; rfl
   have qBt0 : (w6.alloc (.cells #[.int .i64 ab, .slice adt SW.length ct] 38)).cell? ⟨w6.heap.size, 0, none⟩ = some (.int .i64 ab) := by rw [Bt_t37.cell]; rfl
   have qBt1 : (w6.alloc (.cells #[.int .i64 ab, .slice adt SW.length ct] 38)).cell? ⟨w6.heap.size, 1, none⟩ = some (.slice adt SW.length ct) := by rw [Bt_t37.cell]; rfl
   go_wp2_with fail
   clear qBa0 qBa1 qBb0 qBb1 qBx0 qBx1 qBx2 qBy0 qBy1 qBu0 qBu1 qBo0 qBo1 qBo2 qBs0 qBs1 qBt0 qBt1
   refine (implWorkSameO y_t38 u_t38 (by omega) (by omega)).mono ?_
   rintro e w7 ⟨rfl, hb7⟩
   rw [sameW_refl]
   have a_t40 := a_t38.next hb7
   clear a_t38
   have b_t40 := b_t38.next hb7
   clear b_t38
   have y_t40 := y_t38.next hb7
   clear y_t38
   have u_t40 := u_t38.next hb7
   clear u_t38
   have s_t40 := s_t38.next hb7
   clear s_t38
   have t_t40 := t_t38.next hb7
   clear t_t38
   have Ba_t40 := Ba_t38.next hb7
   clear Ba_t38
   have Bb_t40 := Bb_t38.next hb7
   clear Bb_t38
   have Bx_t40 := Bx_t38.next hb7
   clear Bx_t38
   have By_t40 := By_t38.next hb7
   clear By_t38
   have Bu_t40 := Bu_t38.next hb7
   clear Bu_t38
   have Bo_t40 := Bo_t38.next hb7
   clear Bo_t38
   have Bs_t40 := Bs_t38.next hb7
   clear Bs_t38
   have Bt_t40 := Bt_t37.next hb7
   clear Bt_t37
   have hw_t40 := below_next hw_t38 hb7
   have hs_t40 := hb7.size
   have qBa0 : w7.cell? ⟨w1.heap.size, 0, none⟩ = some (.int .i64 za) := by rw [Ba_t40.cell]; rfl
   have qBa1 : w7.cell? ⟨w1.heap.size, 1, none⟩ = some (.slice ada la.length ca) := by rw [Ba_t40.cell]; rfl
   have qBb0 : w7.cell? ⟨w1.heap.size + 1, 0, none⟩ = some (.int .i64 ab) := by rw [Bb_t40.cell]; rfl
   have qBb1 : w7.cell? ⟨w1.heap.size + 1, 1, none⟩ = some (.slice adb lb.length cb) := by rw [Bb_t40.cell]; rfl
   have qBx0 : w7.cell? ⟨w1.heap.size + 1 + 1, 0, none⟩ = some (.string x.k) := by rw [Bx_t40.cell]; rfl
   have qBx1 : w7.cell? ⟨w1.heap.size + 1 + 1, 1, none⟩ = some (.int .i64 x.n) := by rw [Bx_t40.cell]; rfl
   have qBx2 : w7.cell? ⟨w1.heap.size + 1 + 1, 2, none⟩ = some (.bool x.g) := by rw [Bx_t40.cell]; rfl
   have qBy0 : w7.cell? ⟨w2.heap.size, 0, none⟩ = some (.int .i64 ab) := by rw [By_t40.cell]; rfl
   have qBy1 : w7.cell? ⟨w2.heap.size, 1, none⟩ = some (.slice ady RW.length cy) := by rw [By_t40.cell]; rfl
   have qBu0 : w7.cell? ⟨w4.heap.size, 0, none⟩ = some (.int .i64 ab) := by rw [Bu_t40.cell]; rfl
   have qBu1 : w7.cell? ⟨w4.heap.size, 1, none⟩ = some (.slice adu RW.length cu) := by rw [Bu_t40.cell]; rfl
   have qBo0 : w7.cell? ⟨w4.heap.size + 1, 0, none⟩ = some (.string x.k) := by rw [Bo_t40.cell]; rfl
   have qBo1 : w7.cell? ⟨w4.heap.size + 1, 1, none⟩ = some (.int .i64 3) := by rw [Bo_t40.cell]; rfl
   have qBo2 : w7.cell? ⟨w4.heap.size + 1, 2, none⟩ = some (.bool false) := by rw [Bo_t40.cell]; rfl
   have qBs0 : w7.cell? ⟨w5.heap.size, 0, none⟩ = some (.int .i64 ab) := by rw [Bs_t40.cell]; rfl
   have qBs1 : w7.cell? ⟨w5.heap.size, 1, none⟩ = some (.slice ads SW.length cs) := by rw [Bs_t40.cell]; rfl
   have qBt0 : w7.cell? ⟨w6.heap.size, 0, none⟩ = some (.int .i64 ab) := by rw [Bt_t40.cell]; rfl
   have qBt1 : w7.cell? ⟨w6.heap.size, 1, none⟩ = some (.slice adt SW.length ct) := by rw [Bt_t40.cell]; rfl
   go_wp2_with fail
   clear qBa0 qBa1 qBb0 qBb1 qBx0 qBx1 qBx2 qBy0 qBy1 qBu0 qBu1 qBo0 qBo1 qBo2 qBs0 qBs1 qBt0 qBt1
   refine (implWorkSameO s_t40 t_t40 (by omega) (by omega)).mono ?_
   rintro e w8 ⟨rfl, hb8⟩
   rw [sameW_refl]
   have a_t42 := a_t40.next hb8
   clear a_t40
   have b_t42 := b_t40.next hb8
   clear b_t40
   have y_t42 := y_t40.next hb8
   clear y_t40
   have u_t42 := u_t40.next hb8
   clear u_t40
   have s_t42 := s_t40.next hb8
   clear s_t40
   have t_t42 := t_t40.next hb8
   clear t_t40
   have Ba_t42 := Ba_t40.next hb8
   clear Ba_t40
   have Bb_t42 := Bb_t40.next hb8
   clear Bb_t40
   have Bx_t42 := Bx_t40.next hb8
   clear Bx_t40
   have By_t42 := By_t40.next hb8
   clear By_t40
   have Bu_t42 := Bu_t40.next hb8
   clear Bu_t40
   have Bo_t42 := Bo_t40.next hb8
   clear Bo_t40
   have Bs_t42 := Bs_t40.next hb8
   clear Bs_t40
   have Bt_t42 := Bt_t40.next hb8
   clear Bt_t40
   have hw_t42 := below_next hw_t40 hb8
   have hs_t42 := hb8.size
   have qBa0 : w8.cell? ⟨w1.heap.size, 0, none⟩ = some (.int .i64 za) := by rw [Ba_t42.cell]; rfl
   have qBa1 : w8.cell? ⟨w1.heap.size, 1, none⟩ = some (.slice ada la.length ca) := by rw [Ba_t42.cell]; rfl
   have qBb0 : w8.cell? ⟨w1.heap.size + 1, 0, none⟩ = some (.int .i64 ab) := by rw [Bb_t42.cell]; rfl
   have qBb1 : w8.cell? ⟨w1.heap.size + 1, 1, none⟩ = some (.slice adb lb.length cb) := by rw [Bb_t42.cell]; rfl
   have qBx0 : w8.cell? ⟨w1.heap.size + 1 + 1, 0, none⟩ = some (.string x.k) := by rw [Bx_t42.cell]; rfl
   have qBx1 : w8.cell? ⟨w1.heap.size + 1 + 1, 1, none⟩ = some (.int .i64 x.n) := by rw [Bx_t42.cell]; rfl
   have qBx2 : w8.cell? ⟨w1.heap.size + 1 + 1, 2, none⟩ = some (.bool x.g) := by rw [Bx_t42.cell]; rfl
   have qBy0 : w8.cell? ⟨w2.heap.size, 0, none⟩ = some (.int .i64 ab) := by rw [By_t42.cell]; rfl
   have qBy1 : w8.cell? ⟨w2.heap.size, 1, none⟩ = some (.slice ady RW.length cy) := by rw [By_t42.cell]; rfl
   have qBu0 : w8.cell? ⟨w4.heap.size, 0, none⟩ = some (.int .i64 ab) := by rw [Bu_t42.cell]; rfl
   have qBu1 : w8.cell? ⟨w4.heap.size, 1, none⟩ = some (.slice adu RW.length cu) := by rw [Bu_t42.cell]; rfl
   have qBo0 : w8.cell? ⟨w4.heap.size + 1, 0, none⟩ = some (.string x.k) := by rw [Bo_t42.cell]; rfl
   have qBo1 : w8.cell? ⟨w4.heap.size + 1, 1, none⟩ = some (.int .i64 3) := by rw [Bo_t42.cell]; rfl
   have qBo2 : w8.cell? ⟨w4.heap.size + 1, 2, none⟩ = some (.bool false) := by rw [Bo_t42.cell]; rfl
   have qBs0 : w8.cell? ⟨w5.heap.size, 0, none⟩ = some (.int .i64 ab) := by rw [Bs_t42.cell]; rfl
   have qBs1 : w8.cell? ⟨w5.heap.size, 1, none⟩ = some (.slice ads SW.length cs) := by rw [Bs_t42.cell]; rfl
   have qBt0 : w8.cell? ⟨w6.heap.size, 0, none⟩ = some (.int .i64 ab) := by rw [Bt_t42.cell]; rfl
   have qBt1 : w8.cell? ⟨w6.heap.size, 1, none⟩ = some (.slice adt SW.length ct) := by rw [Bt_t42.cell]; rfl
   go_wp2
   go_ret
   exact ⟨rfl, hw_t42⟩
  ·
   have hn1_SC : (SC == 0) = false := by simp; exact hs
   have hn2_SC : (SC != 0) = true := by simp; exact hs
   obtain ⟨TW, TC, HTT⟩ : ∃ TW TC, Hid (wputW za la ab RW (⟨x.k, 3, false⟩ : X) = TW ∧ wputC za la ab RW (⟨x.k, 3, false⟩ : X) = TC) := ⟨_, _, Lib.hid ⟨rfl, rfl⟩⟩
   rw [HTT.out.1] at htl
   have qBa0 : ((w4.alloc (.cells #[.int .i64 ab, .slice adu RW.length cu] 38)).alloc (.cells #[.string x.k, .int .i64 3, .bool false] 52)).cell? ⟨w1.heap.size, 0, none⟩ = some (.int .i64 za) := by rw [Ba_t28.cell]; rfl
   have qBa1 : ((w4.alloc (.cells #[.int .i64 ab, .slice adu RW.length cu] 38)).alloc (.cells #[.string x.k, .int .i64 3, .bool false] 52)).cell? ⟨w1.heap.size, 1, none⟩ = some (.slice ada la.length ca) := by rw [Ba_t28.cell]; rfl
   have qBb0 : ((w4.alloc (.cells #[.int .i64 ab, .slice adu RW.length cu] 38)).alloc (.cells #[.string x.k, .int .i64 3, .bool false] 52)).cell? ⟨w1.heap.size + 1, 0, none⟩ = some (.int .i64 ab) := by rw [Bb_t28.cell]; rfl
   have qBb1 : ((w4.alloc (.cells #[.int .i64 ab, .slice adu RW.length cu] 38)).alloc (.cells #[.string x.k, .int .i64 3, .bool false] 52)).cell? ⟨w1.heap.size + 1, 1, none⟩ = some (.slice adb lb.length cb) := by rw [Bb_t28.cell]; rfl
   have qBx0 : ((w4.alloc (.cells #[.int .i64 ab, .slice adu RW.length cu] 38)).alloc (.cells #[.string x.k, .int .i64 3, .bool false] 52)).cell? ⟨w1.heap.size + 1 + 1, 0, none⟩ = some (.string x.k) := by rw [Bx_t28.cell]; rfl
   have qBx1 : ((w4.alloc (.cells #[.int .i64 ab, .slice adu RW.length cu] 38)).alloc (.cells #[.string x.k, .int .i64 3, .bool false] 52)).cell? ⟨w1.heap.size + 1 + 1, 1, none⟩ = some (.int .i64 x.n) := by rw [Bx_t28.cell]; rfl
   have qBx2 : ((w4.alloc (.cells #[.int .i64 ab, .slice adu RW.length cu] 38)).alloc (.cells #[.string x.k, .int .i64 3, .bool false] 52)).cell? ⟨w1.heap.size + 1 + 1, 2, none⟩ = some (.bool x.g) := by rw [Bx_t28.cell]; rfl
   have qBy0 : ((w4.alloc (.cells #[.int .i64 ab, .slice adu RW.length cu] 38)).alloc (.cells #[.string x.k, .int .i64 3, .bool false] 52)).cell? ⟨w2.heap.size, 0, none⟩ = some (.int .i64 ab) := by rw [By_t28.cell]; rfl
   have qBy1 : ((w4.alloc (.cells #[.int .i64 ab, .slice adu RW.length cu] 38)).alloc (.cells #[.string x.k, .int .i64 3, .bool false] 52)).cell? ⟨w2.heap.size, 1, none⟩ = some (.slice ady RW.length cy) := by rw [By_t28.cell]; rfl
   have qBu0 : ((w4.alloc (.cells #[.int .i64 ab, .slice adu RW.length cu] 38)).alloc (.cells #[.string x.k, .int .i64 3, .bool false] 52)).cell? ⟨w4.heap.size, 0, none⟩ = some (.int .i64 ab) := by rw [Bu_t28.cell]; rfl
   have qBu1 : ((w4.alloc (.cells #[.int .i64 ab, .slice adu RW.length cu] 38)).alloc (.cells #[.string x.k, .int .i64 3, .bool false] 52)).cell? ⟨w4.heap.size, 1, none⟩ = some (.slice adu RW.length cu) := by rw [Bu_t28.cell]; rfl
   have qBo0 : ((w4.alloc (.cells #[.int .i64 ab, .slice adu RW.length cu] 38)).alloc (.cells #[.string x.k, .int .i64 3, .bool false] 52)).cell? ⟨w4.heap.size + 1, 0, none⟩ = some (.string x.k) := by rw [Bo_t27.cell]; rfl
   have qBo1 : ((w4.alloc (.cells #[.int .i64 ab, .slice adu RW.length cu] 38)).alloc (.cells #[.string x.k, .int .i64 3, .bool false] 52)).cell? ⟨w4.heap.size + 1, 1, none⟩ = some (.int .i64 3) := by rw [Bo_t27.cell]; rfl
   have qBo2 : ((w4.alloc (.cells #[.int .i64 ab, .slice adu RW.length cu] 38)).alloc (.cells #[.string x.k, .int .i64 3, .bool false] 52)).cell? ⟨w4.heap.size + 1, 2, none⟩ = some (.bool false) := by rw [Bo_t27.cell]; rfl
   go_wp2_with fail
   clear qBa0 qBa1 qBb0 qBb1 qBx0 qBx1 qBx2 qBy0 qBy1 qBu0 qBu1 qBo0 qBo1 qBo2
   refine (implWorkPutO a_t28 b_t28 hfa hfb hxo (by omega) (by omega)).mono ?_
   rw [HA.out, HSS.out.1, HSS.out.2]
   rintro e w5 ⟨Vs, rfl, s_n, hb5⟩
   obtain ⟨ads, cs, rfl, ry1_s, ry2_s, ry3_s⟩ := s_n.read
   clear ry1_s ry2_s ry3_s
   have a_t30 := a_t28.next hb5
   clear a_t28
   have b_t30 := b_t28.next hb5
   clear b_t28
   have y_t30 := y_t28.next hb5
   clear y_t28
   have u_t30 := u_t28.next hb5
   clear u_t28
   have Ba_t30 := Ba_t28.next hb5
   clear Ba_t28
   have Bb_t30 := Bb_t28.next hb5
   clear Bb_t28
   have Bx_t30 := Bx_t28.next hb5
   clear Bx_t28
   have By_t30 := By_t28.next hb5
   clear By_t28
   have Bu_t30 := Bu_t28.next hb5
   clear Bu_t28
   have Bo_t30 := Bo_t27.next hb5
   clear Bo_t27
   have hw_t30 := below_next hw_t28 hb5
   have hs_t30 := hb5.size
   have hb_t32 := below_alloc (Below.refl _ w5) (.cells #[.int .i64 ab, .slice ads SW.length cs] 38)
   have Bs_t32 := blkA w5 #[.int .i64 ab, .slice ads SW.length cs] 38
   have hz_t32 : (w5.alloc (.cells #[.int .i64 ab, .slice ads SW.length cs] 38)).heap.size = w5.heap.size + 1 := World.size_alloc _ _
   have a_t33 := a_t30.next hb_t32
   clear a_t30
   have b_t33 := b_t30.next hb_t32
   clear b_t30
   have y_t33 := y_t30.next hb_t32
   clear y_t30
   have u_t33 := u_t30.next hb_t32
   clear u_t30
   have s_t33 := s_n.next hb_t32
   clear s_n
   have Ba_t33 := Ba_t30.next hb_t32
   clear Ba_t30
   have Bb_t33 := Bb_t30.next hb_t32
   clear Bb_t30
   have Bx_t33 := Bx_t30.next hb_t32
   clear Bx_t30
   have By_t33 := By_t30.next hb_t32
   clear By_t30
   have Bu_t33 := Bu_t30.next hb_t32
   clear Bu_t30
   have Bo_t33 := Bo_t30.next hb_t32
   clear Bo_t30
   have hw_t33 := below_next hw_t30 hb_t32
   have hs_t33 := hb_t32.size
   have qBa0 : (w5.alloc (.cells #[.int .i64 ab, .slice ads SW.length cs] 38)).cell? ⟨w1.heap.size, 0, none⟩ = some (.int .i64 za) := by rw [Ba_t33.cell]; rfl
   have qBa1 : (w5.alloc (.cells #[.int .i64 ab, .slice ads SW.length cs] 38)).cell? ⟨w1.heap.size, 1, none⟩ = some (.slice ada la.length ca) := by rw [Ba_t33.cell]; rfl
   have qBb0 : (w5.alloc (.cells #[.int .i64 ab, .slice ads SW.length cs] 38)).cell? ⟨w1.heap.size + 1, 0, none⟩ = some (.int .i64 ab) := by rw [Bb_t33.cell]; rfl
   have qBb1 : (w5.alloc (.cells #[.int .i64 ab, .slice ads SW.length cs] 38)).cell? ⟨w1.heap.size + 1, 1, none⟩ = some (.slice adb lb.length cb) := by rw [Bb_t33.cell]; rfl
   have qBx0 : (w5.alloc (.cells #[.int .i64 ab, .slice ads SW.length cs] 38)).cell? ⟨w1.heap.size + 1 + 1, 0, none⟩ = some (.string x.k) := by rw [Bx_t33.cell]; rfl
   have qBx1 : (w5.alloc (.cells #[.int .i64 ab, .slice ads SW.length cs] 38)).cell? ⟨w1.heap.size + 1 + 1, 1, none⟩ = some (.int .i64 x.n) := by rw [Bx_t33.cell]; rfl
   have qBx2 : (w5.alloc (.cells #[.int .i64 ab, .slice ads SW.length cs] 38)).cell? ⟨w1.heap.size + 1 + 1, 2, none⟩ = some (.bool x.g) := by rw [Bx_t33.cell]; rfl
   have qBy0 : (w5.alloc (.cells #[.int .i64 ab, .slice ads SW.length cs] 38)).cell? ⟨w2.heap.size, 0, none⟩ = some (.int .i64 ab) := by rw [By_t33.cell]; rfl
   have qBy1 : (w5.alloc (.cells #[.int .i64 ab, .slice ads SW.length cs] 38)).cell? ⟨w2.heap.size, 1, none⟩ = some (.slice ady RW.length cy) := by rw [By_t33.cell]; rfl
   have qBu0 : (w5.alloc (.cells #[.int .i64 ab, .slice ads SW.length cs] 38)).cell? ⟨w4.heap.size, 0, none⟩ = some (.int .i64 ab) := by rw [Bu_t33.cell]; rfl
   have qBu1 : (w5.alloc (.cells #[.int .i64 ab, .slice ads SW.length cs] 38)).cell? ⟨w4.heap.size, 1, none⟩ = some (.slice adu RW.length cu) := by rw [Bu_t33.cell]; rfl
   have qBo0 : (w5.alloc (.cells #[.int .i64 ab, .slice ads SW.length cs] 38)).cell? ⟨w4.heap.size + 1, 0, none⟩ = some (.string x.k) := by rw [Bo_t33.cell]; rfl
   have qBo1 : (w5.alloc (.cells #[.int .i64 ab, .slice ads SW.length cs] 38)).cell? ⟨w4.heap.size + 1, 1, none⟩ = some (.int .i64 3) := by rw [Bo_t33.cell]; rfl
   have qBo2 : (w5.alloc (.cells #[.int .i64 ab, .slice ads SW.length cs] 38)).cell? ⟨w4.heap.size + 1, 2, none⟩ = some (.bool false) := by rw [Bo_t33.cell]; rfl
   have qBs0 : (w5.alloc (.cells #[.int .i64 ab, .slice ads SW.length cs] 38)).cell? ⟨w5.heap.size, 0, none⟩ = some (.int .i64 ab) := by rw [Bs_t32.cell]; rfl
   have qBs1 : (w5.alloc (.cells #[.int .i64 ab, .slice ads SW.length cs] 38)).cell? ⟨w5.heap.size, 1, none⟩ = some (.slice ads SW.length cs) := by rw [Bs_t32.cell]; rfl
   go_wp2_with fail
   clear qBa0 qBa1 qBb0 qBb1 qBx0 qBx1 qBx2 qBy0 qBy1 qBu0 qBu1 qBo0 qBo1 qBo2 qBs0 qBs1
   refine (implWorkPutO a_t33 y_t33 hfa hfW hxo (by omega) (by omega)).mono ?_
   rw [HT.out.2.1, HTT.out.1, HTT.out.2]
   rintro e w6 ⟨Vt, rfl, t_n, hb6⟩
   obtain ⟨adt, ct, rfl, ry1_t, ry2_t, ry3_t⟩ := t_n.read
   clear ry1_t ry2_t ry3_t
   have a_t35 := a_t33.next hb6
   clear a_t33
   have b_t35 := b_t33.next hb6
   clear b_t33
   have y_t35 := y_t33.next hb6
   clear y_t33
   have u_t35 := u_t33.next hb6
   clear u_t33
   have s_t35 := s_t33.next hb6
   clear s_t33
   have Ba_t35 := Ba_t33.next hb6
   clear Ba_t33
   have Bb_t35 := Bb_t33.next hb6
   clear Bb_t33
   have Bx_t35 := Bx_t33.next hb6
   clear Bx_t33
   have By_t35 := By_t33.next hb6
   clear By_t33
   have Bu_t35 := Bu_t33.next hb6
   clear Bu_t33
   have Bo_t35 := Bo_t33.next hb6
   clear Bo_t33
   have Bs_t35 := Bs_t32.next hb6
   clear Bs_t32
   have hw_t35 := below_next hw_t33 hb6
   have hs_t35 := hb6.size
   have hb_t37 := below_alloc (Below.refl _ w6) (.cells #[.int .i64 ab, .slice adt TW.length ct] 38)
   have Bt_t37 := blkA w6 #[.int .i64 ab, .slice adt TW.length ct] 38
   have hz_t37 : (w6.alloc (.cells #[.int .i64 ab, .slice adt TW.length ct] 38)).heap.size = w6.heap.size + 1 := World.size_alloc _ _
   have a_t38 := a_t35.next hb_t37
   clear a_t35
   have b_t38 := b_t35.next hb_t37
   clear b_t35
   have y_t38 := y_t35.next hb_t37
   clear y_t35
   have u_t38 := u_t35.next hb_t37
   clear u_t35
   have s_t38 := s_t35.next hb_t37
   clear s_t35
   have t_t38 := t_n.next hb_t37
   clear t_n
   have Ba_t38 := Ba_t35.next hb_t37
   clear Ba_t35
   have Bb_t38 := Bb_t35.next hb_t37
   clear Bb_t35
   have Bx_t38 := Bx_t35.next hb_t37
   clear Bx_t35
   have By_t38 := By_t35.next hb_t37
   clear By_t35
   have Bu_t38 := Bu_t35.next hb_t37
   clear Bu_t35
   have Bo_t38 := Bo_t35.next hb_t37
   clear Bo_t35
   have Bs_t38 := Bs_t35.next hb_t37
   clear Bs_t35
   have hw_t38 := below_next hw_t35 hb_t37
   have hs_t38 := hb_t37.size
   have qBa0 : (w6.alloc (.cells #[.int .i64 ab, .slice adt TW.length ct] 38)).cell? ⟨w1.heap.size, 0, none⟩ = some (.int .i64 za) := by rw [Ba_t38.cell]; rfl
   have qBa1 : (w6.alloc (.cells #[.int .i64 ab, .slice adt TW.length ct] 38)).cell? ⟨w1.heap.size, 1, none⟩ = some (.slice ada la.length ca) := by rw [Ba_t38.cell]; rfl
   have qBb0 : (w6.alloc (.cells #[.int .i64 ab, .slice adt TW.length ct] 38)).cell? ⟨w1.heap.size + 1, 0, none⟩ = some (.int .i64 ab) := by rw [Bb_t38.cell]; rfl
   have qBb1 : (w6.alloc (.cells #[.int .i64 ab, .slice adt TW.length ct] 38)).cell? ⟨w1.heap.size + 1, 1, none⟩ = some (.slice adb lb.length cb) := by rw [Bb_t38.cell]; rfl
   have qBx0 : (w6.alloc (.cells #[.int .i64 ab, .slice adt TW.length ct] 38)).cell? ⟨w1.heap.size + 1 + 1, 0, none⟩ = some (.string x.k) := by rw [Bx_t38.cell]; rfl
   have qBx1 : (w6.alloc (.cells #[.int .i64 ab, .slice adt TW.length ct] 38)).cell? ⟨w1.heap.size + 1 + 1, 1, none⟩ = some (.int .i64 x.n) := by rw [Bx_t38.cell]; rfl
   have qBx2 : (w6.alloc (.cells #[.int .i64 ab, .slice adt TW.length ct] 38)).cell? ⟨w1.heap.size + 1 + 1, 2, none⟩ = some (.bool x.g) := by rw [Bx_t38.cell]; rfl
   have qBy0 : (w6.alloc (.cells #[.int .i64 ab, .slice adt TW.length ct] 38)).cell? ⟨w2.heap.size, 0, none⟩ = some (.int .i64 ab) := by rw [By_t38.cell]; rfl
   have qBy1 : (w6.alloc (.cells #[.int .i64 ab, .slice adt TW.length ct] 38)).cell? ⟨w2.heap.size, 1, none⟩ = some (.slice ady RW.length cy) := by rw [By_t38.cell]; rfl
   have qBu0 : (w6.alloc (.cells #[.int .i64 ab, .slice adt TW.length ct] 38)).cell? ⟨w4.heap.size, 0, none⟩ = some (.int .i64 ab) := by rw [Bu_t38.cell]; rfl
   have qBu1 : (w6.alloc (.cells #[.int .i64 ab, .slice adt TW.length ct] 38)).cell? ⟨w4.heap.size, 1, none⟩ = some (.slice adu RW.length cu) := by rw [Bu_t38.cell]; rfl
   have qBo0 : (w6.alloc (.cells #[.int .i64 ab, .slice adt TW.length ct] 38)).cell? ⟨w4.heap.size + 1, 0, none⟩ = some (.string x.k) := by rw [Bo_t38.cell]; rfl
   have qBo1 : (w6.alloc (.cells #[.int .i64 ab, .slice adt TW.length ct] 38)).cell? ⟨w4.heap.size + 1, 1, none⟩ = some (.int .i64 3) := by rw [Bo_t38.cell]; rfl
   have qBo2 : (w6.alloc (.cells #[.int .i64 ab, .slice adt TW.length ct] 38)).cell? ⟨w4.heap.size + 1, 2, none⟩ = some (.bool false) := by rw [Bo_t38.cell]; rfl
   have qBs0 : (w6.alloc (.cells #[.int .i64 ab, .slice adt TW.length ct] 38)).cell? ⟨w5.heap.size, 0, none⟩ = some (.int .i64 ab) := by rw [Bs_t38.cell]; rfl
   have qBs1 : (w6.alloc (.cells #[.int .i64 ab, .slice adt TW.length ct] 38)).cell? ⟨w5.heap.size, 1, none⟩ = some (.slice ads SW.length cs) := by rw [Bs_t38.cell]; rfl
   have qBt0 : (w6.alloc (.cells #[.int .i64 ab, .slice adt TW.length ct] 38)).cell? ⟨w6.heap.size, 0, none⟩ = some (.int .i64 ab) := by rw [Bt_t37.cell]; rfl
   have qBt1 : (w6.alloc (.cells #[.int .i64 ab, .slice adt TW.length ct] 38)).cell? ⟨w6.heap.size, 1, none⟩ = some (.slice adt TW.length ct) := by rw [Bt_t37.cell]; rfl
   go_wp2_with fail
   clear qBa0 qBa1 qBb0 qBb1 qBx0 qBx1 qBx2 qBy0 qBy1 qBu0 qBu1 qBo0 qBo1 qBo2 qBs0 qBs1 qBt0 qBt1
   refine (implWorkSameO y_t38 u_t38 (by omega) (by omega)).mono ?_
   rintro e w7 ⟨rfl, hb7⟩
   rw [sameW_refl]
   have a_t40 := a_t38.next hb7
   clear a_t38
   have b_t40 := b_t38.next hb7
   clear b_t38
   have y_t40 := y_t38.next hb7
   clear y_t38
   have u_t40 := u_t38.next hb7
   clear u_t38
   have s_t40 := s_t38.next hb7
   clear s_t38
   have t_t40 := t_t38.next hb7
   clear t_t38
   have Ba_t40 := Ba_t38.next hb7
   clear Ba_t38
   have Bb_t40 := Bb_t38.next hb7
   clear Bb_t38
   have Bx_t40 := Bx_t38.next hb7
   clear Bx_t38
   have By_t40 := By_t38.next hb7
   clear By_t38
   have Bu_t40 := Bu_t38.next hb7
   clear Bu_t38
   have Bo_t40 := Bo_t38.next hb7
   clear Bo_t38
   have Bs_t40 := Bs_t38.next hb7
   clear Bs_t38
   have Bt_t40 := Bt_t37.next hb7
   clear Bt_t37
   have hw_t40 := below_next hw_t38 hb7
   have hs_t40 := hb7.size
   have qBa0 : w7.cell? ⟨w1.heap.size, 0, none⟩ = some (.int .i64 za) := by rw [Ba_t40.cell]; rfl
   have qBa1 : w7.cell? ⟨w1.heap.size, 1, none⟩ = some (.slice ada la.length ca) := by rw [Ba_t40.cell]; rfl
   have qBb0 : w7.cell? ⟨w1.heap.size + 1, 0, none⟩ = some (.int .i64 ab) := by rw [Bb_t40.cell]; rfl
   have qBb1 : w7.cell? ⟨w1.heap.size + 1, 1, none⟩ = some (.slice adb lb.length cb) := by rw [Bb_t40.cell]; rfl
   have qBx0 : w7.cell? ⟨w1.heap.size + 1 + 1, 0, none⟩ = some (.string x.k) := by rw [Bx_t40.cell]; rfl
   have qBx1 : w7.cell? ⟨w1.heap.size + 1 + 1, 1, none⟩ = some (.int .i64 x.n) := by rw [Bx_t40.cell]; rfl
   have qBx2 : w7.cell? ⟨w1.heap.size + 1 + 1, 2, none⟩ = some (.bool x.g) := by rw [Bx_t40.cell]; rfl
   have qBy0 : w7.cell? ⟨w2.heap.size, 0, none⟩ = some (.int .i64 ab) := by rw [By_t40.cell]; rfl
   have qBy1 : w7.cell? ⟨w2.heap.size, 1, none⟩ = some (.slice ady RW.length cy) := by rw [By_t40.cell]; rfl
   have qBu0 : w7.cell? ⟨w4.heap.size, 0, none⟩ = some (.int .i64 ab) := by rw [Bu_t40.cell]; rfl
   have qBu1 : w7.cell? ⟨w4.heap.size, 1, none⟩ = some (.slice adu RW.length cu) := by rw [Bu_t40.cell]; rfl
   have qBo0 : w7.cell? ⟨w4.heap.size + 1, 0, none⟩ = some (.string x.k) := by rw [Bo_t40.cell]; rfl
   have qBo1 : w7.cell? ⟨w4.heap.size + 1, 1, none⟩ = some (.int .i64 3) := by rw [Bo_t40.cell]; rfl
   have qBo2 : w7.cell? ⟨w4.heap.size + 1, 2, none⟩ = some (.bool false) := by rw [Bo_t40.cell]; rfl
   have qBs0 : w7.cell? ⟨w5.heap.size, 0, none⟩ = some (.int .i64 ab) := by rw [Bs_t40.cell]; rfl
   have qBs1 : w7.cell? ⟨w5.heap.size, 1, none⟩ = some (.slice ads SW.length cs) := by rw [Bs_t40.cell]; rfl
   have qBt0 : w7.cell? ⟨w6.heap.size, 0, none⟩ = some (.int .i64 ab) := by rw [Bt_t40.cell]; rfl
   have qBt1 : w7.cell? ⟨w6.heap.size, 1, none⟩ = some (.slice adt TW.length ct) := by rw [Bt_t40.cell]; rfl
   go_wp2
   go_ret
   exact ⟨rfl, hw_t40⟩
 ·
  have hn1_RC : (RC == 0) = false := by simp; exact hc
  have hn2_RC : (RC != 0) = true := by simp; exact hc
  have qBa0 : (w3.alloc (.cells #[.int .i64 RA, .slice adz RW.length cz] 38)).cell? ⟨w1.heap.size, 0, none⟩ = some (.int .i64 za) := by rw [Ba_t20.cell]; rfl
  have qBa1 : (w3.alloc (.cells #[.int .i64 RA, .slice adz RW.length cz] 38)).cell? ⟨w1.heap.size, 1, none⟩ = some (.slice ada la.length ca) := by rw [Ba_t20.cell]; rfl
  have qBb0 : (w3.alloc (.cells #[.int .i64 RA, .slice adz RW.length cz] 38)).cell? ⟨w1.heap.size + 1, 0, none⟩ = some (.int .i64 ab) := by rw [Bb_t20.cell]; rfl
  have qBb1 : (w3.alloc (.cells #[.int .i64 RA, .slice adz RW.length cz] 38)).cell? ⟨w1.heap.size + 1, 1, none⟩ = some (.slice adb lb.length cb) := by rw [Bb_t20.cell]; rfl
  have qBx0 : (w3.alloc (.cells #[.int .i64 RA, .slice adz RW.length cz] 38)).cell? ⟨w1.heap.size + 1 + 1, 0, none⟩ = some (.string x.k) := by rw [Bx_t20.cell]; rfl
  have qBx1 : (w3.alloc (.cells #[.int .i64 RA, .slice adz RW.length cz] 38)).cell? ⟨w1.heap.size + 1 + 1, 1, none⟩ = some (.int .i64 x.n) := by rw [Bx_t20.cell]; rfl
  have qBx2 : (w3.alloc (.cells #[.int .i64 RA, .slice adz RW.length cz] 38)).cell? ⟨w1.heap.size + 1 + 1, 2, none⟩ = some (.bool x.g) := by rw [Bx_t20.cell]; rfl
  have qBy0 : (w3.alloc (.cells #[.int .i64 RA, .slice adz RW.length cz] 38)).cell? ⟨w2.heap.size, 0, none⟩ = some (.int .i64 RA) := by rw [By_t20.cell]; rfl
  have qBy1 : (w3.alloc (.cells #[.int .i64 RA, .slice adz RW.length cz] 38)).cell? ⟨w2.heap.size, 1, none⟩ = some (.slice ady RW.length cy) := by rw [By_t20.cell]; rfl
  go_wp2
  go_ret
  exact ⟨rfl, hw_t20⟩

set_option maxRecDepth 100000 in
theorem lifted (os : Os) (started : os.Started) (H : Type) (enc : TypeId × Value → H) :
  ReturnsInHanded {} Tryz.checked os 12 .any (Rows.fnWorkTwiceSpec.pre6 enc Tryz.prog Tryz.f12 Rows.fnWorkTwiceRow.domain false) (Rows.fnWorkTwiceSpec.post enc Tryz.prog Tryz.f12 false true false false) := by
 refine returnsInHanded_of_change (C := Tryz.checked) Whole.own started (by kernel_rfl) Tryz.func12
  (ChangeSpec.witness6 (enc := enc) (C := Tryz.checked) false ⟨#[], #[.slice none 0 0], []⟩ 8 (by kernel_rfl) (by kernel_rfl) (by kernel_rfl) (by kernel_rfl)) ?_
 intro W base args ds gs before hval0 hW hcnd _
 have hval : ∀ (j : Nat) t v, Tryz.f12.params[j]? = some t → args[j]? = some v → Value.okWide Tryz.prog W .any base t v := hval0
 have hW' := hW
 obtain ⟨p, q, hA0, hV, rfl, hfz, hnd⟩ := hW
 have hA : DataW.TrodAll enc Tryz.prog W 0 (fun _ => true) true Tryz.f12.params.toList args.toList ds p := hA0
 rw [Tryz.params12] at hA hval
 obtain ⟨v0, vs0, d0, ds0, p0, q0, hargs, rfl, rfl, h0, r0⟩ := trodAll_cons hA
 obtain ⟨rfl, rfl, rfl⟩ := trodAll_nil r0
 obtain rfl : args = #[v0] := by cases args; simp_all
 obtain ⟨rfl, rfl⟩ := trodVars_none hV
 have k0 := h0
 have lt0 : ∀ x ∈ p0, x.block < W.heap.size := by obtain ⟨m, hm⟩ := k0; exact DataW.trod_lt m _ _ _ hm
 obtain ⟨A0, n0, c0, rfl, hc0, hm0, hr0⟩ := openBytes (hval 0 57 v0 rfl rfl) h0
 clear hA0 hval0
 refine (walk A0 n0 c0 W hc0 hm0 hr0).mono fun e W' ⟨he, bel⟩ => ?_
 subst he
 exact ⟨_, rfl, _, _, _, [], _, [], hW', trodAll_mk1 (shut_bool Tryz.underlying4 _), (trodAll_cons_mk (Below.trod Whole.laidOut (by kernel_rfl) (of_decide_eq_true (by kernel_rfl)) k0 bel lt0) trodAll_mk0), rfl, bel.frame _, fun h => by cases h⟩

theorem named : Tryz.prog.funcNamed Rows.fnWorkTwiceRow.func = some 12 := by kernel_rfl
theorem closed : Whole.lawFacts Tryz.prog 12 Tryz.f12 Rows.fnWorkTwiceSpec Rows.fnWorkTwiceRow = true := by kernel_rfl
theorem inst : Tryz.f12.isInstance Tryz.prog Rows.fnWorkTwiceRow.origin Rows.fnWorkTwiceRow.targs := of_decide_eq_true (by kernel_rfl)
theorem wrap : Tryz.f12.isWrapper Tryz.prog Rows.fnWorkTwiceRow.wrapper Rows.fnWorkTwiceRow.mainSum := by
 unfold Func.isWrapper; first | (rw [if_pos (by decide +kernel)]; kernel_rfl) | (rw [if_neg (by decide +kernel)]; exact ⟨rfl, rfl⟩)
theorem over : Rows.fnWorkTwiceRow.holds Tryz.pinned (OpenSpec.ofChange Rows.fnWorkTwiceSpec) :=
 OpenClaim.holds_of_wide 12 Tryz.f12 rfl rfl rfl rfl rfl rfl rfl ⟨rfl, rfl, rfl, rfl, rfl⟩ rfl rfl rfl rfl rfl named Tryz.func12 (Whole.facts_of closed)
  inst wrap (fun os started H enc _ => lifted os started H enc)

theorem proved : Rows.FnWorkTwiceSaid := over
#print axioms proved
end Go.Proofs.YtbeklnhngjmpiaaGreat.fnWorkTwice
