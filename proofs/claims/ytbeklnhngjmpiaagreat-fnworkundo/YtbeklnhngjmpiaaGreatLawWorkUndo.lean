/- The law FnWorkUndo: for every code that is drawn from, what was put can be taken away again: it is seen no more, and the writes are as many, as in the model: for every input the call returns true, and the argument reads afterwards as before. No conditions. -/
import Derived.Test.YtbeklnhngjmpiaaGreatRows
import Derived.Test.YtbeklnhngjmpiaaGreatWhole
import Derived.Test.YtbeklnhngjmpiaaGreatA1
import Derived.Test.YtbeklnhngjmpiaaGreatA4
import Derived.Test.YtbeklnhngjmpiaaGreatDw3
import Derived.Test.YtbeklnhngjmpiaaGreatW3r
import Derived.Test.YtbeklnhngjmpiaaGreatX3g
import Derived.Test.YtbeklnhngjmpiaaGreatX3n
import Derived.WalkKit
import Derived.ProofKit
import Derived.OpenShut
import Derived.ShutString
import Derived.ChangeOld
import Derived.Below
namespace Go.Proofs.YtbeklnhngjmpiaaGreat.fnWorkUndo
open Go.ChangeShapes Go.WideShapes Go.ChangeAt Go.RowKit
open Go.ChangeMaps (open_string shut_string)
set_option linter.unusedVariables false

set_option maxRecDepth 100000 in
set_option maxHeartbeats 1000000 in
theorem walk (A0 : Option Addr) (n0 c0 : Nat) (w : World) (hc0 : n0 ≤ c0) (hm0 : c0 ≤ maxLen) (hr0 : RdB w w.heap.size A0 n0) :
  Calls Tryz.prog 14 #[.slice A0 n0 c0] w fun e w' => e = .returned (.bool true) ∧ Below w.heap.size w w' := by
 by_cases hn_n0 : (1048576 : Int) < (n0 : Int)
 ·
  go_enter Tryz.func14, Tryz.ntmps14
  go_wp2
  go_ret
  exact ⟨rfl, Below.refl _ _⟩
 go_enter Tryz.func14, Tryz.ntmps14
 go_wp2_with fail
 refine (drawWorkPut A0 n0 c0 w hc0 hm0 hr0).mono ?_
 rintro e w1 ⟨za, Va, la, ab, Vb, lb, x, rfl, a_n, hfa, hza, hla, b_n, hfb, hab, hlb, hx, hb1⟩
 obtain ⟨ada, ca, rfl, ry1_a, ry2_a, ry3_a⟩ := a_n.read
 clear ry1_a ry2_a ry3_a
 obtain ⟨adb, cb, rfl, ry1_b, ry2_b, ry3_b⟩ := b_n.read
 clear ry1_b ry2_b ry3_b
 have hw_t1 := hb1
 have hs_t1 := hb1.size
 have hb_t3 := below_alloc (Below.refl _ w1) (.cells #[.int .i64 za, .slice ada la.length ca] 34)
 have Ba_t3 := blkA w1 #[.int .i64 za, .slice ada la.length ca] 34
 have hz_t3 : (w1.alloc (.cells #[.int .i64 za, .slice ada la.length ca] 34)).heap.size = w1.heap.size + 1 := World.size_alloc _ _
 have a_t4 := a_n.next hb_t3
 clear a_n
 have b_t4 := b_n.next hb_t3
 clear b_n
 have hw_t4 := below_next hw_t1 hb_t3
 have hs_t4 := hb_t3.size
 have hb_t6 := below_alloc (Below.refl _ (w1.alloc (.cells #[.int .i64 za, .slice ada la.length ca] 34))) (.cells #[.int .i64 ab, .slice adb lb.length cb] 38)
 have Bb_t6 := blkA (w1.alloc (.cells #[.int .i64 za, .slice ada la.length ca] 34)) #[.int .i64 ab, .slice adb lb.length cb] 38
 simp only [World.size_alloc] at Bb_t6
 have hz_t6 : ((w1.alloc (.cells #[.int .i64 za, .slice ada la.length ca] 34)).alloc (.cells #[.int .i64 ab, .slice adb lb.length cb] 38)).heap.size = (w1.alloc (.cells #[.int .i64 za, .slice ada la.length ca] 34)).heap.size + 1 := World.size_alloc _ _
 have a_t7 := a_t4.next hb_t6
 clear a_t4
 have b_t7 := b_t4.next hb_t6
 clear b_t4
 have Ba_t7 := Ba_t3.next hb_t6
 clear Ba_t3
 have hw_t7 := below_next hw_t4 hb_t6
 have hs_t7 := hb_t6.size
 have hb_t9 := below_alloc (Below.refl _ ((w1.alloc (.cells #[.int .i64 za, .slice ada la.length ca] 34)).alloc (.cells #[.int .i64 ab, .slice adb lb.length cb] 38))) (.cells #[.string x.k, .int .i64 x.n, .bool x.g] 52)
 have Bx_t9 := blkA ((w1.alloc (.cells #[.int .i64 za, .slice ada la.length ca] 34)).alloc (.cells #[.int .i64 ab, .slice adb lb.length cb] 38)) #[.string x.k, .int .i64 x.n, .bool x.g] 52
 simp only [World.size_alloc] at Bx_t9
 have hz_t9 : (((w1.alloc (.cells #[.int .i64 za, .slice ada la.length ca] 34)).alloc (.cells #[.int .i64 ab, .slice adb lb.length cb] 38)).alloc (.cells #[.string x.k, .int .i64 x.n, .bool x.g] 52)).heap.size = ((w1.alloc (.cells #[.int .i64 za, .slice ada la.length ca] 34)).alloc (.cells #[.int .i64 ab, .slice adb lb.length cb] 38)).heap.size + 1 := World.size_alloc _ _
 have a_t10 := a_t7.next hb_t9
 clear a_t7
 have b_t10 := b_t7.next hb_t9
 clear b_t7
 have Ba_t10 := Ba_t7.next hb_t9
 clear Ba_t7
 have Bb_t10 := Bb_t6.next hb_t9
 clear Bb_t6
 have hw_t10 := below_next hw_t7 hb_t9
 have hs_t10 := hb_t9.size
 have hpl := wputW_length za la ab lb x (by omega)
 obtain ⟨RA, RW, RC, HRR⟩ : ∃ RA RW RC, Hid (wputA za la ab lb = RA ∧ wputW za la ab lb x = RW ∧ wputC za la ab lb x = RC) := ⟨_, _, _, Lib.hid ⟨rfl, rfl, rfl⟩⟩
 rw [HRR.out.2.1] at hpl
 have qBa0 : (((w1.alloc (.cells #[.int .i64 za, .slice ada la.length ca] 34)).alloc (.cells #[.int .i64 ab, .slice adb lb.length cb] 38)).alloc (.cells #[.string x.k, .int .i64 x.n, .bool x.g] 52)).cell? ⟨w1.heap.size, 0, none⟩ = some (.int .i64 za) := by rw [Ba_t10.cell]; rfl
 have qBa1 : (((w1.alloc (.cells #[.int .i64 za, .slice ada la.length ca] 34)).alloc (.cells #[.int .i64 ab, .slice adb lb.length cb] 38)).alloc (.cells #[.string x.k, .int .i64 x.n, .bool x.g] 52)).cell? ⟨w1.heap.size, 1, none⟩ = some (.slice ada la.length ca) := by rw [Ba_t10.cell]; rfl
 have qBb0 : (((w1.alloc (.cells #[.int .i64 za, .slice ada la.length ca] 34)).alloc (.cells #[.int .i64 ab, .slice adb lb.length cb] 38)).alloc (.cells #[.string x.k, .int .i64 x.n, .bool x.g] 52)).cell? ⟨w1.heap.size + 1, 0, none⟩ = some (.int .i64 ab) := by rw [Bb_t10.cell]; rfl
 have qBb1 : (((w1.alloc (.cells #[.int .i64 za, .slice ada la.length ca] 34)).alloc (.cells #[.int .i64 ab, .slice adb lb.length cb] 38)).alloc (.cells #[.string x.k, .int .i64 x.n, .bool x.g] 52)).cell? ⟨w1.heap.size + 1, 1, none⟩ = some (.slice adb lb.length cb) := by rw [Bb_t10.cell]; rfl
 have qBx0 : (((w1.alloc (.cells #[.int .i64 za, .slice ada la.length ca] 34)).alloc (.cells #[.int .i64 ab, .slice adb lb.length cb] 38)).alloc (.cells #[.string x.k, .int .i64 x.n, .bool x.g] 52)).cell? ⟨w1.heap.size + 1 + 1, 0, none⟩ = some (.string x.k) := by rw [Bx_t9.cell]; rfl
 have qBx1 : (((w1.alloc (.cells #[.int .i64 za, .slice ada la.length ca] 34)).alloc (.cells #[.int .i64 ab, .slice adb lb.length cb] 38)).alloc (.cells #[.string x.k, .int .i64 x.n, .bool x.g] 52)).cell? ⟨w1.heap.size + 1 + 1, 1, none⟩ = some (.int .i64 x.n) := by rw [Bx_t9.cell]; rfl
 have qBx2 : (((w1.alloc (.cells #[.int .i64 za, .slice ada la.length ca] 34)).alloc (.cells #[.int .i64 ab, .slice adb lb.length cb] 38)).alloc (.cells #[.string x.k, .int .i64 x.n, .bool x.g] 52)).cell? ⟨w1.heap.size + 1 + 1, 2, none⟩ = some (.bool x.g) := by rw [Bx_t9.cell]; rfl
 go_wp2_with fail
 clear qBa0 qBa1 qBb0 qBb1 qBx0 qBx1 qBx2
 refine (implWorkPutO a_t10 b_t10 hfa hfb hx (by omega) (by omega)).mono ?_
 rw [HRR.out.1, HRR.out.2.1, HRR.out.2.2]
 rintro e w2 ⟨Vy, rfl, y_n, hb2⟩
 obtain ⟨ady, cy, rfl, ry1_y, ry2_y, ry3_y⟩ := y_n.read
 clear ry1_y ry2_y ry3_y
 have a_t12 := a_t10.next hb2
 clear a_t10
 have b_t12 := b_t10.next hb2
 clear b_t10
 have Ba_t12 := Ba_t10.next hb2
 clear Ba_t10
 have Bb_t12 := Bb_t10.next hb2
 clear Bb_t10
 have Bx_t12 := Bx_t9.next hb2
 clear Bx_t9
 have hw_t12 := below_next hw_t10 hb2
 have hs_t12 := hb2.size
 have hb_t14 := below_alloc (Below.refl _ w2) (.cells #[.int .i64 RA, .slice ady RW.length cy] 38)
 have By_t14 := blkA w2 #[.int .i64 RA, .slice ady RW.length cy] 38
 have hz_t14 : (w2.alloc (.cells #[.int .i64 RA, .slice ady RW.length cy] 38)).heap.size = w2.heap.size + 1 := World.size_alloc _ _
 have a_t15 := a_t12.next hb_t14
 clear a_t12
 have b_t15 := b_t12.next hb_t14
 clear b_t12
 have y_t15 := y_n.next hb_t14
 clear y_n
 have Ba_t15 := Ba_t12.next hb_t14
 clear Ba_t12
 have Bb_t15 := Bb_t12.next hb_t14
 clear Bb_t12
 have Bx_t15 := Bx_t12.next hb_t14
 clear Bx_t12
 have hw_t15 := below_next hw_t12 hb_t14
 have hs_t15 := hb_t14.size
 have qBa0 : (w2.alloc (.cells #[.int .i64 RA, .slice ady RW.length cy] 38)).cell? ⟨w1.heap.size, 0, none⟩ = some (.int .i64 za) := by rw [Ba_t15.cell]; rfl
 have qBa1 : (w2.alloc (.cells #[.int .i64 RA, .slice ady RW.length cy] 38)).cell? ⟨w1.heap.size, 1, none⟩ = some (.slice ada la.length ca) := by rw [Ba_t15.cell]; rfl
 have qBb0 : (w2.alloc (.cells #[.int .i64 RA, .slice ady RW.length cy] 38)).cell? ⟨w1.heap.size + 1, 0, none⟩ = some (.int .i64 ab) := by rw [Bb_t15.cell]; rfl
 have qBb1 : (w2.alloc (.cells #[.int .i64 RA, .slice ady RW.length cy] 38)).cell? ⟨w1.heap.size + 1, 1, none⟩ = some (.slice adb lb.length cb) := by rw [Bb_t15.cell]; rfl
 have qBx0 : (w2.alloc (.cells #[.int .i64 RA, .slice ady RW.length cy] 38)).cell? ⟨w1.heap.size + 1 + 1, 0, none⟩ = some (.string x.k) := by rw [Bx_t15.cell]; rfl
 have qBx1 : (w2.alloc (.cells #[.int .i64 RA, .slice ady RW.length cy] 38)).cell? ⟨w1.heap.size + 1 + 1, 1, none⟩ = some (.int .i64 x.n) := by rw [Bx_t15.cell]; rfl
 have qBx2 : (w2.alloc (.cells #[.int .i64 RA, .slice ady RW.length cy] 38)).cell? ⟨w1.heap.size + 1 + 1, 2, none⟩ = some (.bool x.g) := by rw [Bx_t15.cell]; rfl
 have qBy0 : (w2.alloc (.cells #[.int .i64 RA, .slice ady RW.length cy] 38)).cell? ⟨w2.heap.size, 0, none⟩ = some (.int .i64 RA) := by rw [By_t14.cell]; rfl
 have qBy1 : (w2.alloc (.cells #[.int .i64 RA, .slice ady RW.length cy] 38)).cell? ⟨w2.heap.size, 1, none⟩ = some (.slice ady RW.length cy) := by rw [By_t14.cell]; rfl
 go_wp2_with fail
 clear qBa0 qBa1 qBb0 qBb1 qBx0 qBx1 qBx2 qBy0 qBy1
 refine (specWorkPutO a_t15 b_t15 hfa hfb hx (by omega) (by omega)).mono ?_
 rw [HRR.out.1, HRR.out.2.1, HRR.out.2.2]
 rintro e w3 ⟨Vz, rfl, z_n, hb3⟩
 obtain ⟨adz, cz, rfl, ry1_z, ry2_z, ry3_z⟩ := z_n.read
 clear ry1_z ry2_z ry3_z
 have a_t17 := a_t15.next hb3
 clear a_t15
 have b_t17 := b_t15.next hb3
 clear b_t15
 have y_t17 := y_t15.next hb3
 clear y_t15
 have Ba_t17 := Ba_t15.next hb3
 clear Ba_t15
 have Bb_t17 := Bb_t15.next hb3
 clear Bb_t15
 have Bx_t17 := Bx_t15.next hb3
 clear Bx_t15
 have By_t17 := By_t14.next hb3
 clear By_t14
 have hw_t17 := below_next hw_t15 hb3
 have hs_t17 := hb3.size
 have hb_t19 := below_alloc (Below.refl _ w3) (.cells #[.int .i64 RA, .slice adz RW.length cz] 38)
 have Bz_t19 := blkA w3 #[.int .i64 RA, .slice adz RW.length cz] 38
 have hz_t19 : (w3.alloc (.cells #[.int .i64 RA, .slice adz RW.length cz] 38)).heap.size = w3.heap.size + 1 := World.size_alloc _ _
 have a_t20 := a_t17.next hb_t19
 clear a_t17
 have b_t20 := b_t17.next hb_t19
 clear b_t17
 have y_t20 := y_t17.next hb_t19
 clear y_t17
 have z_t20 := z_n.next hb_t19
 clear z_n
 have Ba_t20 := Ba_t17.next hb_t19
 clear Ba_t17
 have Bb_t20 := Bb_t17.next hb_t19
 clear Bb_t17
 have Bx_t20 := Bx_t17.next hb_t19
 clear Bx_t17
 have By_t20 := By_t17.next hb_t19
 clear By_t17
 have hw_t20 := below_next hw_t17 hb_t19
 have hs_t20 := hb_t19.size
 clear z_t20
 have hrc : (RC != RC) = false := by simp
 have hrd : (RC == RC) = true := by simp
 by_cases hc : RC = 0
 ·
  subst hc
  obtain ⟨hl6, hp6, e1, e2⟩ := fine_put HRR.out.2.2
  have hRA : ab = RA := e1.symm.trans HRR.out.1
  have HRW : Hid (RW = putXs lb x) := Lib.hid (HRR.out.2.1.symm.trans e2)
  have HC0 : Hid (wputC za la ab lb x = 0) := Lib.hid HRR.out.2.2
  rw [← HRW.out] at hp6
  have hfW : FitXs RW := by rw [HRW.out]; exact hfb.putXs hx
  clear HRR e1 e2
  subst hRA
  clear hrc hrd
  have HU := undo_sees HC0.out
  rw [← HRW.out] at HU
  have hfQ : FitXs (putXs RW (⟨x.k, 0, true⟩ : X)) := hfW.putXs ⟨hx.1, by show (-9223372036854775808 : Int) ≤ 0; omega, by show (0 : Int) ≤ 9223372036854775807; omega⟩
  obtain ⟨QW, HQ⟩ : ∃ QW, Hid (putXs RW (⟨x.k, 0, true⟩ : X) = QW) := ⟨_, Lib.hid rfl⟩
  rw [HQ.out] at HU hfQ
  obtain ⟨hu1, hu2, hu3, hu4, hu5⟩ := HU
  have HU := Lib.hid (And.intro hu2 (And.intro hu3 hu1))
  have HU5 := Lib.hid hu5
  clear hu1 hu2 hu3 hu5
  have hqi : ((QW.length : Int) == (RW.length : Int)) = true := by simp [hu4]
  have hxo : FitX (⟨x.k, 0, true⟩ : X) := ⟨hx.1, by show (-9223372036854775808 : Int) ≤ 0; omega, by show (0 : Int) ≤ 9223372036854775807; omega⟩
  have hql : QW.length ≤ 6 := by omega
  clear hu4
  have qBa0 : (w3.alloc (.cells #[.int .i64 ab, .slice adz RW.length cz] 38)).cell? ⟨w1.heap.size, 0, none⟩ = some (.int .i64 za) := by rw [Ba_t20.cell]; rfl
  have qBa1 : (w3.alloc (.cells #[.int .i64 ab, .slice adz RW.length cz] 38)).cell? ⟨w1.heap.size, 1, none⟩ = some (.slice ada la.length ca) := by rw [Ba_t20.cell]; rfl
  have qBb0 : (w3.alloc (.cells #[.int .i64 ab, .slice adz RW.length cz] 38)).cell? ⟨w1.heap.size + 1, 0, none⟩ = some (.int .i64 ab) := by rw [Bb_t20.cell]; rfl
  have qBb1 : (w3.alloc (.cells #[.int .i64 ab, .slice adz RW.length cz] 38)).cell? ⟨w1.heap.size + 1, 1, none⟩ = some (.slice adb lb.length cb) := by rw [Bb_t20.cell]; rfl
  have qBx0 : (w3.alloc (.cells #[.int .i64 ab, .slice adz RW.length cz] 38)).cell? ⟨w1.heap.size + 1 + 1, 0, none⟩ = some (.string x.k) := by rw [Bx_t20.cell]; rfl
  have qBx1 : (w3.alloc (.cells #[.int .i64 ab, .slice adz RW.length cz] 38)).cell? ⟨w1.heap.size + 1 + 1, 1, none⟩ = some (.int .i64 x.n) := by rw [Bx_t20.cell]; rfl
  have qBx2 : (w3.alloc (.cells #[.int .i64 ab, .slice adz RW.length cz] 38)).cell? ⟨w1.heap.size + 1 + 1, 2, none⟩ = some (.bool x.g) := by rw [Bx_t20.cell]; rfl
  have qBy0 : (w3.alloc (.cells #[.int .i64 ab, .slice adz RW.length cz] 38)).cell? ⟨w2.heap.size, 0, none⟩ = some (.int .i64 ab) := by rw [By_t20.cell]; rfl
  have qBy1 : (w3.alloc (.cells #[.int .i64 ab, .slice adz RW.length cz] 38)).cell? ⟨w2.heap.size, 1, none⟩ = some (.slice ady RW.length cy) := by rw [By_t20.cell]; rfl
  go_wp2_with fail
  clear qBa0 qBa1 qBb0 qBb1 qBx0 qBx1 qBx2 qBy0 qBy1
  refine (implWorkPutO (x := (⟨x.k, 0, true⟩ : X)) a_t20 y_t20 hfa hfW hxo (by omega) (by omega)).mono ?_
  rw [HU.out.1, HU.out.2.1, HU.out.2.2]
  rintro e w4 ⟨Vu, rfl, u_n, hb4⟩
  obtain ⟨adu, cu, rfl, ry1_u, ry2_u, ry3_u⟩ := u_n.read
  clear ry1_u ry2_u ry3_u
  have a_t22 := a_t20.next hb4
  clear a_t20
  have b_t22 := b_t20.next hb4
  clear b_t20
  have y_t22 := y_t20.next hb4
  clear y_t20
  have Ba_t22 := Ba_t20.next hb4
  clear Ba_t20
  have Bb_t22 := Bb_t20.next hb4
  clear Bb_t20
  have Bx_t22 := Bx_t20.next hb4
  clear Bx_t20
  have By_t22 := By_t20.next hb4
  clear By_t20
  have hw_t22 := below_next hw_t20 hb4
  have hs_t22 := hb4.size
  have hb_t24 := below_alloc (Below.refl _ w4) (.cells #[.int .i64 ab, .slice adu QW.length cu] 38)
  have Bu_t24 := blkA w4 #[.int .i64 ab, .slice adu QW.length cu] 38
  have hz_t24 : (w4.alloc (.cells #[.int .i64 ab, .slice adu QW.length cu] 38)).heap.size = w4.heap.size + 1 := World.size_alloc _ _
  have a_t25 := a_t22.next hb_t24
  clear a_t22
  have b_t25 := b_t22.next hb_t24
  clear b_t22
  have y_t25 := y_t22.next hb_t24
  clear y_t22
  have u_t25 := u_n.next hb_t24
  clear u_n
  have Ba_t25 := Ba_t22.next hb_t24
  clear Ba_t22
  have Bb_t25 := Bb_t22.next hb_t24
  clear Bb_t22
  have Bx_t25 := Bx_t22.next hb_t24
  clear Bx_t22
  have By_t25 := By_t22.next hb_t24
  clear By_t22
  have hw_t25 := below_next hw_t22 hb_t24
  have hs_t25 := hb_t24.size
  have hl_R1 := workRows_length za la ab QW
  have hf_R1 : FitR (workRows za la ab QW) := fitR_work hfa hfQ
  obtain ⟨R1, HR1⟩ : ∃ R1, Hid (workRows za la ab QW = R1) := ⟨_, Lib.hid rfl⟩
  rw [HR1.out] at hl_R1 hf_R1
  rw [HR1.out] at HU5
  obtain ⟨GN, HGN⟩ : ∃ GN, Hid (getN R1 x.k = GN) := ⟨_, Lib.hid rfl⟩
  have qBa0 : (w4.alloc (.cells #[.int .i64 ab, .slice adu QW.length cu] 38)).cell? ⟨w1.heap.size, 0, none⟩ = some (.int .i64 za) := by rw [Ba_t25.cell]; rfl
  have qBa1 : (w4.alloc (.cells #[.int .i64 ab, .slice adu QW.length cu] 38)).cell? ⟨w1.heap.size, 1, none⟩ = some (.slice ada la.length ca) := by rw [Ba_t25.cell]; rfl
  have qBb0 : (w4.alloc (.cells #[.int .i64 ab, .slice adu QW.length cu] 38)).cell? ⟨w1.heap.size + 1, 0, none⟩ = some (.int .i64 ab) := by rw [Bb_t25.cell]; rfl
  have qBb1 : (w4.alloc (.cells #[.int .i64 ab, .slice adu QW.length cu] 38)).cell? ⟨w1.heap.size + 1, 1, none⟩ = some (.slice adb lb.length cb) := by rw [Bb_t25.cell]; rfl
  have qBx0 : (w4.alloc (.cells #[.int .i64 ab, .slice adu QW.length cu] 38)).cell? ⟨w1.heap.size + 1 + 1, 0, none⟩ = some (.string x.k) := by rw [Bx_t25.cell]; rfl
  have qBx1 : (w4.alloc (.cells #[.int .i64 ab, .slice adu QW.length cu] 38)).cell? ⟨w1.heap.size + 1 + 1, 1, none⟩ = some (.int .i64 x.n) := by rw [Bx_t25.cell]; rfl
  have qBx2 : (w4.alloc (.cells #[.int .i64 ab, .slice adu QW.length cu] 38)).cell? ⟨w1.heap.size + 1 + 1, 2, none⟩ = some (.bool x.g) := by rw [Bx_t25.cell]; rfl
  have qBy0 : (w4.alloc (.cells #[.int .i64 ab, .slice adu QW.length cu] 38)).cell? ⟨w2.heap.size, 0, none⟩ = some (.int .i64 ab) := by rw [By_t25.cell]; rfl
  have qBy1 : (w4.alloc (.cells #[.int .i64 ab, .slice adu QW.length cu] 38)).cell? ⟨w2.heap.size, 1, none⟩ = some (.slice ady RW.length cy) := by rw [By_t25.cell]; rfl
  have qBu0 : (w4.alloc (.cells #[.int .i64 ab, .slice adu QW.length cu] 38)).cell? ⟨w4.heap.size, 0, none⟩ = some (.int .i64 ab) := by rw [Bu_t24.cell]; rfl
  have qBu1 : (w4.alloc (.cells #[.int .i64 ab, .slice adu QW.length cu] 38)).cell? ⟨w4.heap.size, 1, none⟩ = some (.slice adu QW.length cu) := by rw [Bu_t24.cell]; rfl
  go_wp2
  clear qBa0 qBa1 qBb0 qBb1 qBx0 qBx1 qBx2 qBy0 qBy1 qBu0 qBu1
  have hb_t27 : Below (w4.alloc (.cells #[.int .i64 ab, .slice adu QW.length cu] 38)).heap.size (w4.alloc (.cells #[.int .i64 ab, .slice adu QW.length cu] 38)) (w4.alloc (.cells #[.int .i64 ab, .slice adu QW.length cu] 38)).drew := (Below.refl _ _).drew
  have a_t28 := a_t25.next hb_t27
  clear a_t25
  have b_t28 := b_t25.next hb_t27
  clear b_t25
  have y_t28 := y_t25.next hb_t27
  clear y_t25
  have u_t28 := u_t25.next hb_t27
  clear u_t25
  have Ba_t28 := Ba_t25.next hb_t27
  clear Ba_t25
  have Bb_t28 := Bb_t25.next hb_t27
  clear Bb_t25
  have Bx_t28 := Bx_t25.next hb_t27
  clear Bx_t25
  have By_t28 := By_t25.next hb_t27
  clear By_t25
  have Bu_t28 := Bu_t24.next hb_t27
  clear Bu_t24
  have hw_t28 := below_next hw_t25 hb_t27
  have hs_t28 := hb_t27.size
  refine wp_region_held_drew (S := (fun W => W.cell? ⟨w1.heap.size, 0, none⟩ = some (.int .i64 za) ∧ W.cell? ⟨w1.heap.size, 1, none⟩ = some (.slice ada la.length ca) ∧ W.cell? ⟨w1.heap.size + 1, 0, none⟩ = some (.int .i64 ab) ∧ W.cell? ⟨w1.heap.size + 1, 1, none⟩ = some (.slice adb lb.length cb) ∧ W.cell? ⟨w1.heap.size + 1 + 1, 0, none⟩ = some (.string x.k) ∧ W.cell? ⟨w1.heap.size + 1 + 1, 1, none⟩ = some (.int .i64 x.n) ∧ W.cell? ⟨w1.heap.size + 1 + 1, 2, none⟩ = some (.bool x.g) ∧ W.cell? ⟨w2.heap.size, 0, none⟩ = some (.int .i64 ab) ∧ W.cell? ⟨w2.heap.size, 1, none⟩ = some (.slice ady RW.length cy) ∧ W.cell? ⟨w4.heap.size, 0, none⟩ = some (.int .i64 ab) ∧ W.cell? ⟨w4.heap.size, 1, none⟩ = some (.slice adu QW.length cu))) (by kernel_rfl) ?_ (fun hHeld => ?_)
  focus ((try dsimp only); (exact ⟨by rw [Ba_t28.cell]; rfl, by rw [Ba_t28.cell]; rfl, by rw [Bb_t28.cell]; rfl, by rw [Bb_t28.cell]; rfl, by rw [Bx_t28.cell]; rfl, by rw [Bx_t28.cell]; rfl, by rw [Bx_t28.cell]; rfl, by rw [By_t28.cell]; rfl, by rw [By_t28.cell]; rfl, by rw [Bu_t28.cell]; rfl, by rw [Bu_t28.cell]; rfl⟩))
  refine tk 0 ?_
  refine tk 1 ?_
  refine tk 3 ?_
  refine tk 4 ?_
  (refine rd1 2 (fun K hK => ?_); go_simp; (go_at_call 21; refine (implWorkRowsO a_t28 u_t28 hfa hfQ (by omega) (by omega)).mono ?_; rw [HR1.out]; rintro e w5 ⟨Vr, rfl, r_n, hb5⟩; obtain ⟨adr, cr, rfl, ry1_r, ry2_r, ry3_r⟩ := r_n.read; clear ry1_r ry2_r ry3_r; have a_t30 := a_t28.next hb5; clear a_t28; have b_t30 := b_t28.next hb5; clear b_t28; have y_t30 := y_t28.next hb5; clear y_t28; have u_t30 := u_t28.next hb5; clear u_t28; have Ba_t30 := Ba_t28.next hb5; clear Ba_t28; have Bb_t30 := Bb_t28.next hb5; clear Bb_t28; have Bx_t30 := Bx_t28.next hb5; clear Bx_t28; have By_t30 := By_t28.next hb5; clear By_t28; have Bu_t30 := Bu_t28.next hb5; clear Bu_t28; have hw_t30 := below_next hw_t28 hb5; have hs_t30 := hb5.size); go_wp2_with fail; refine hK.out _ _ ?_ (fun hHeld => ?_); (focus ((try dsimp only); (exact ⟨by rw [Ba_t30.cell]; rfl, by rw [Ba_t30.cell]; rfl, by rw [Bb_t30.cell]; rfl, by rw [Bb_t30.cell]; rfl, by rw [Bx_t30.cell]; rfl, by rw [Bx_t30.cell]; rfl, by rw [Bx_t30.cell]; rfl, by rw [By_t30.cell]; rfl, by rw [By_t30.cell]; rfl, by rw [Bu_t30.cell]; rfl, by rw [Bu_t30.cell]; rfl⟩))); clear hK K; (try simp only [Act.put, pa, pb, pc]))
  (refine rd1 5 (fun K hK => ?_); go_simp; (go_at_call 41; refine (implGetO x.k r_n hf_R1 (by omega)).mono ?_; rintro e w6 ⟨rfl, hb6⟩; rw [HGN.out, HU5.out]; have a_t32 := a_t30.next hb6; clear a_t30; have b_t32 := b_t30.next hb6; clear b_t30; have y_t32 := y_t30.next hb6; clear y_t30; have u_t32 := u_t30.next hb6; clear u_t30; have r_t32 := r_n.next hb6; clear r_n; have Ba_t32 := Ba_t30.next hb6; clear Ba_t30; have Bb_t32 := Bb_t30.next hb6; clear Bb_t30; have Bx_t32 := Bx_t30.next hb6; clear Bx_t30; have By_t32 := By_t30.next hb6; clear By_t30; have Bu_t32 := Bu_t30.next hb6; clear Bu_t30; have hw_t32 := below_next hw_t30 hb6; have hs_t32 := hb6.size); go_wp2_with fail; refine hK.out _ _ ?_ (fun hHeld => ?_); (focus ((try dsimp only); (exact ⟨by rw [Ba_t32.cell]; rfl, by rw [Ba_t32.cell]; rfl, by rw [Bb_t32.cell]; rfl, by rw [Bb_t32.cell]; rfl, by rw [Bx_t32.cell]; rfl, by rw [Bx_t32.cell]; rfl, by rw [Bx_t32.cell]; rfl, by rw [By_t32.cell]; rfl, by rw [By_t32.cell]; rfl, by rw [Bu_t32.cell]; rfl, by rw [Bu_t32.cell]; rfl⟩))); clear hK K; (try simp only [Act.put, pa, pb, pc]))
  refine tk 6 ?_
  refine tk 7 ?_
  refine tk 8 ?_
  refine tk 9 ?_
  refine tk 10 ?_
  refine wpAnyH_done (by kernel_rfl) ?_ _
  have qBa0 : w6.cell? ⟨w1.heap.size, 0, none⟩ = some (.int .i64 za) := by rw [Ba_t32.cell]; rfl
  have qBa1 : w6.cell? ⟨w1.heap.size, 1, none⟩ = some (.slice ada la.length ca) := by rw [Ba_t32.cell]; rfl
  have qBb0 : w6.cell? ⟨w1.heap.size + 1, 0, none⟩ = some (.int .i64 ab) := by rw [Bb_t32.cell]; rfl
  have qBb1 : w6.cell? ⟨w1.heap.size + 1, 1, none⟩ = some (.slice adb lb.length cb) := by rw [Bb_t32.cell]; rfl
  have qBx0 : w6.cell? ⟨w1.heap.size + 1 + 1, 0, none⟩ = some (.string x.k) := by rw [Bx_t32.cell]; rfl
  have qBx1 : w6.cell? ⟨w1.heap.size + 1 + 1, 1, none⟩ = some (.int .i64 x.n) := by rw [Bx_t32.cell]; rfl
  have qBx2 : w6.cell? ⟨w1.heap.size + 1 + 1, 2, none⟩ = some (.bool x.g) := by rw [Bx_t32.cell]; rfl
  have qBy0 : w6.cell? ⟨w2.heap.size, 0, none⟩ = some (.int .i64 ab) := by rw [By_t32.cell]; rfl
  have qBy1 : w6.cell? ⟨w2.heap.size, 1, none⟩ = some (.slice ady RW.length cy) := by rw [By_t32.cell]; rfl
  have qBu0 : w6.cell? ⟨w4.heap.size, 0, none⟩ = some (.int .i64 ab) := by rw [Bu_t32.cell]; rfl
  have qBu1 : w6.cell? ⟨w4.heap.size, 1, none⟩ = some (.slice adu QW.length cu) := by rw [Bu_t32.cell]; rfl
  go_wp2
  go_ret
  exact ⟨rfl, hw_t32⟩
 ·
  have hn1_RC : (RC == 0) = false := by simp; exact hc
  have hn2_RC : (RC != 0) = true := by simp; exact hc
  have qBa0 : (w3.alloc (.cells #[.int .i64 RA, .slice adz RW.length cz] 38)).cell? ⟨w1.heap.size, 0, none⟩ = some (.int .i64 za) := by rw [Ba_t20.cell]; rfl
  have qBa1 : (w3.alloc (.cells #[.int .i64 RA, .slice adz RW.length cz] 38)).cell? ⟨w1.heap.size, 1, none⟩ = some (.slice ada la.length ca) := by rw [Ba_t20.cell]; rfl
  have qBb0 : (w3.alloc (.cells #[.int .i64 RA, .slice adz RW.length cz] 38)).cell? ⟨w1.heap.size + 1, 0, none⟩ = some (.int .i64 ab) := by rw [Bb_t20.cell]; rfl
  have qBb1 : (w3.alloc (.cells #[.int .i64 RA, .slice adz RW.length cz] 38)).cell? ⟨w1.heap.size + 1, 1, none⟩ = some (.slice adb lb.length cb) := by rw [Bb_t20.cell]; rfl
  have qBx0 : (w3.alloc (.cells #[.int .i64 RA, .slice adz RW.length cz] 38)).cell? ⟨w1.heap.size + 1 + 1, 0, none⟩ = some (.string x.k) := by rw [Bx_t20.cell]; rfl
  have qBx1 : (w3.alloc (.cells #[.int .i64 RA, .slice adz RW.length cz] 38)).cell? ⟨w1.heap.size + 1 + 1, 1, none⟩ = some (.int .i64 x.n) := by rw [Bx_t20.cell]; rfl
  have qBx2 : (w3.alloc (.cells #[.int .i64 RA, .slice adz RW.length cz] 38)).cell? ⟨w1.heap.size + 1 + 1, 2, none⟩ = some (.bool x.g) := by rw [Bx_t20.cell]; rfl
  have qBy0 : (w3.alloc (.cells #[.int .i64 RA, .slice adz RW.length cz] 38)).cell? ⟨w2.heap.size, 0, none⟩ = some (.int .i64 RA) := by rw [By_t20.cell]; rfl
  have qBy1 : (w3.alloc (.cells #[.int .i64 RA, .slice adz RW.length cz] 38)).cell? ⟨w2.heap.size, 1, none⟩ = some (.slice ady RW.length cy) := by rw [By_t20.cell]; rfl
  go_wp2
  go_ret
  exact ⟨rfl, hw_t20⟩

set_option maxRecDepth 100000 in
theorem lifted (os : Os) (started : os.Started) (H : Type) (enc : TypeId × Value → H) :
  ReturnsInHanded {} Tryz.checked os 14 .any (Rows.fnWorkUndoSpec.pre6 enc Tryz.prog Tryz.f14 Rows.fnWorkUndoRow.domain false) (Rows.fnWorkUndoSpec.post enc Tryz.prog Tryz.f14 false true false false) := by
 refine returnsInHanded_of_change (C := Tryz.checked) Whole.own started (by kernel_rfl) Tryz.func14
  (ChangeSpec.witness6 (enc := enc) (C := Tryz.checked) false ⟨#[], #[.slice none 0 0], []⟩ 8 (by kernel_rfl) (by kernel_rfl) (by kernel_rfl) (by kernel_rfl)) ?_
 intro W base args ds gs before hval0 hW hcnd _
 have hval : ∀ (j : Nat) t v, Tryz.f14.params[j]? = some t → args[j]? = some v → Value.okWide Tryz.prog W .any base t v := hval0
 have hW' := hW
 obtain ⟨p, q, hA0, hV, rfl, hfz, hnd⟩ := hW
 have hA : DataW.TrodAll enc Tryz.prog W 0 (fun _ => true) true Tryz.f14.params.toList args.toList ds p := hA0
 rw [Tryz.params14] at hA hval
 obtain ⟨v0, vs0, d0, ds0, p0, q0, hargs, rfl, rfl, h0, r0⟩ := trodAll_cons hA
 obtain ⟨rfl, rfl, rfl⟩ := trodAll_nil r0
 obtain rfl : args = #[v0] := by cases args; simp_all
 obtain ⟨rfl, rfl⟩ := trodVars_none hV
 have k0 := h0
 have lt0 : ∀ x ∈ p0, x.block < W.heap.size := by obtain ⟨m, hm⟩ := k0; exact DataW.trod_lt m _ _ _ hm
 obtain ⟨A0, n0, c0, rfl, hc0, hm0, hr0⟩ := openBytes (hval 0 57 v0 rfl rfl) h0
 clear hA0 hval0
 refine (walk A0 n0 c0 W hc0 hm0 hr0).mono fun e W' ⟨he, bel⟩ => ?_
 subst he
 exact ⟨_, rfl, _, _, _, [], _, [], hW', trodAll_mk1 (shut_bool Tryz.underlying4 _), (trodAll_cons_mk (Below.trod Whole.laidOut (by kernel_rfl) (of_decide_eq_true (by kernel_rfl)) k0 bel lt0) trodAll_mk0), rfl, bel.frame _, fun h => by cases h⟩

theorem named : Tryz.prog.funcNamed Rows.fnWorkUndoRow.func = some 14 := by kernel_rfl
theorem closed : Whole.lawFacts Tryz.prog 14 Tryz.f14 Rows.fnWorkUndoSpec Rows.fnWorkUndoRow = true := by kernel_rfl
theorem inst : Tryz.f14.isInstance Tryz.prog Rows.fnWorkUndoRow.origin Rows.fnWorkUndoRow.targs := of_decide_eq_true (by kernel_rfl)
theorem wrap : Tryz.f14.isWrapper Tryz.prog Rows.fnWorkUndoRow.wrapper Rows.fnWorkUndoRow.mainSum := by
 unfold Func.isWrapper; first | (rw [if_pos (by decide +kernel)]; kernel_rfl) | (rw [if_neg (by decide +kernel)]; exact ⟨rfl, rfl⟩)
theorem over : Rows.fnWorkUndoRow.holds Tryz.pinned (OpenSpec.ofChange Rows.fnWorkUndoSpec) :=
 OpenClaim.holds_of_wide 14 Tryz.f14 rfl rfl rfl rfl rfl rfl rfl ⟨rfl, rfl, rfl, rfl, rfl⟩ rfl rfl rfl rfl rfl named Tryz.func14 (Whole.facts_of closed)
  inst wrap (fun os started H enc _ => lifted os started H enc)

theorem proved : Rows.FnWorkUndoSaid := over
#print axioms proved
end Go.Proofs.YtbeklnhngjmpiaaGreat.fnWorkUndo
