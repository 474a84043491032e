/- The law FnWorkPut: for every code that is drawn from, one sees what one puts or takes away, and all other keys as before; what goes wrong changes nothing, as in the model: for every input the call returns true, and the argument reads afterwards as before. No conditions. -/
import Derived.Test.YtbeklnhngjmpiaaGreatRows
import Derived.Test.YtbeklnhngjmpiaaGreatWhole
import Derived.Test.YtbeklnhngjmpiaaGreatA1
import Derived.Test.YtbeklnhngjmpiaaGreatA4
import Derived.Test.YtbeklnhngjmpiaaGreatDw3
import Derived.Test.YtbeklnhngjmpiaaGreatW3r
import Derived.Test.YtbeklnhngjmpiaaGreatX3g
import Derived.Test.YtbeklnhngjmpiaaGreatX3n
import Derived.WalkKit
import Derived.ProofKit
import Derived.OpenShut
import Derived.ShutString
import Derived.ChangeOld
import Derived.Below
namespace Go.Proofs.YtbeklnhngjmpiaaGreat.fnWorkPut
open Go.ChangeShapes Go.WideShapes Go.ChangeAt Go.RowKit
open Go.ChangeMaps (open_string shut_string)
set_option linter.unusedVariables false

set_option maxRecDepth 100000 in
set_option maxHeartbeats 1000000 in
theorem walk (A0 : Option Addr) (n0 c0 : Nat) (w : World) (hc0 : n0 ≤ c0) (hm0 : c0 ≤ maxLen) (hr0 : RdB w w.heap.size A0 n0) :
  Calls Tryz.prog 6 #[.slice A0 n0 c0] w fun e w' => e = .returned (.bool true) ∧ Below w.heap.size w w' := by
 by_cases hn_n0 : (1048576 : Int) < (n0 : Int)
 ·
  go_enter Tryz.func6, Tryz.ntmps6
  go_wp2
  go_ret
  exact ⟨rfl, Below.refl _ _⟩
 go_enter Tryz.func6, Tryz.ntmps6
 go_wp2_with fail
 refine (drawWorkPut A0 n0 c0 w hc0 hm0 hr0).mono ?_
 rintro e w1 ⟨za, Va, la, ab, Vb, lb, x, rfl, a_n, hfa, hza, hla, b_n, hfb, hab, hlb, hx, hb1⟩
 obtain ⟨ada, ca, rfl, ry1_a, ry2_a, ry3_a⟩ := a_n.read
 clear ry1_a ry2_a ry3_a
 obtain ⟨adb, cb, rfl, ry1_b, ry2_b, ry3_b⟩ := b_n.read
 clear ry1_b ry2_b ry3_b
 have hw_t1 := hb1
 have hs_t1 := hb1.size
 have hb_t3 := below_alloc (Below.refl _ w1) (.cells #[.int .i64 za, .slice ada la.length ca] 34)
 have Ba_t3 := blkA w1 #[.int .i64 za, .slice ada la.length ca] 34
 have hz_t3 : (w1.alloc (.cells #[.int .i64 za, .slice ada la.length ca] 34)).heap.size = w1.heap.size + 1 := World.size_alloc _ _
 have a_t4 := a_n.next hb_t3
 clear a_n
 have b_t4 := b_n.next hb_t3
 clear b_n
 have hw_t4 := below_next hw_t1 hb_t3
 have hs_t4 := hb_t3.size
 have hb_t6 := below_alloc (Below.refl _ (w1.alloc (.cells #[.int .i64 za, .slice ada la.length ca] 34))) (.cells #[.int .i64 ab, .slice adb lb.length cb] 38)
 have Bb_t6 := blkA (w1.alloc (.cells #[.int .i64 za, .slice ada la.length ca] 34)) #[.int .i64 ab, .slice adb lb.length cb] 38
 simp only [World.size_alloc] at Bb_t6
 have hz_t6 : ((w1.alloc (.cells #[.int .i64 za, .slice ada la.length ca] 34)).alloc (.cells #[.int .i64 ab, .slice adb lb.length cb] 38)).heap.size = (w1.alloc (.cells #[.int .i64 za, .slice ada la.length ca] 34)).heap.size + 1 := World.size_alloc _ _
 have a_t7 := a_t4.next hb_t6
 clear a_t4
 have b_t7 := b_t4.next hb_t6
 clear b_t4
 have Ba_t7 := Ba_t3.next hb_t6
 clear Ba_t3
 have hw_t7 := below_next hw_t4 hb_t6
 have hs_t7 := hb_t6.size
 have hb_t9 := below_alloc (Below.refl _ ((w1.alloc (.cells #[.int .i64 za, .slice ada la.length ca] 34)).alloc (.cells #[.int .i64 ab, .slice adb lb.length cb] 38))) (.cells #[.string x.k, .int .i64 x.n, .bool x.g] 52)
 have Bx_t9 := blkA ((w1.alloc (.cells #[.int .i64 za, .slice ada la.length ca] 34)).alloc (.cells #[.int .i64 ab, .slice adb lb.length cb] 38)) #[.string x.k, .int .i64 x.n, .bool x.g] 52
 simp only [World.size_alloc] at Bx_t9
 have hz_t9 : (((w1.alloc (.cells #[.int .i64 za, .slice ada la.length ca] 34)).alloc (.cells #[.int .i64 ab, .slice adb lb.length cb] 38)).alloc (.cells #[.string x.k, .int .i64 x.n, .bool x.g] 52)).heap.size = ((w1.alloc (.cells #[.int .i64 za, .slice ada la.length ca] 34)).alloc (.cells #[.int .i64 ab, .slice adb lb.length cb] 38)).heap.size + 1 := World.size_alloc _ _
 have a_t10 := a_t7.next hb_t9
 clear a_t7
 have b_t10 := b_t7.next hb_t9
 clear b_t7
 have Ba_t10 := Ba_t7.next hb_t9
 clear Ba_t7
 have Bb_t10 := Bb_t6.next hb_t9
 clear Bb_t6
 have hw_t10 := below_next hw_t7 hb_t9
 have hs_t10 := hb_t9.size
 have hpl := wputW_length za la ab lb x (by omega)
 obtain ⟨RA, RW, RC, HRR⟩ : ∃ RA RW RC, Hid (wputA za la ab lb = RA ∧ wputW za la ab lb x = RW ∧ wputC za la ab lb x = RC) := ⟨_, _, _, Lib.hid ⟨rfl, rfl, rfl⟩⟩
 rw [HRR.out.2.1] at hpl
 have qBa0 : (((w1.alloc (.cells #[.int .i64 za, .slice ada la.length ca] 34)).alloc (.cells #[.int .i64 ab, .slice adb lb.length cb] 38)).alloc (.cells #[.string x.k, .int .i64 x.n, .bool x.g] 52)).cell? ⟨w1.heap.size, 0, none⟩ = some (.int .i64 za) := by rw [Ba_t10.cell]; rfl
 have qBa1 : (((w1.alloc (.cells #[.int .i64 za, .slice ada la.length ca] 34)).alloc (.cells #[.int .i64 ab, .slice adb lb.length cb] 38)).alloc (.cells #[.string x.k, .int .i64 x.n, .bool x.g] 52)).cell? ⟨w1.heap.size, 1, none⟩ = some (.slice ada la.length ca) := by rw [Ba_t10.cell]; rfl
 have qBb0 : (((w1.alloc (.cells #[.int .i64 za, .slice ada la.length ca] 34)).alloc (.cells #[.int .i64 ab, .slice adb lb.length cb] 38)).alloc (.cells #[.string x.k, .int .i64 x.n, .bool x.g] 52)).cell? ⟨w1.heap.size + 1, 0, none⟩ = some (.int .i64 ab) := by rw [Bb_t10.cell]; rfl
 have qBb1 : (((w1.alloc (.cells #[.int .i64 za, .slice ada la.length ca] 34)).alloc (.cells #[.int .i64 ab, .slice adb lb.length cb] 38)).alloc (.cells #[.string x.k, .int .i64 x.n, .bool x.g] 52)).cell? ⟨w1.heap.size + 1, 1, none⟩ = some (.slice adb lb.length cb) := by rw [Bb_t10.cell]; rfl
 have qBx0 : (((w1.alloc (.cells #[.int .i64 za, .slice ada la.length ca] 34)).alloc (.cells #[.int .i64 ab, .slice adb lb.length cb] 38)).alloc (.cells #[.string x.k, .int .i64 x.n, .bool x.g] 52)).cell? ⟨w1.heap.size + 1 + 1, 0, none⟩ = some (.string x.k) := by rw [Bx_t9.cell]; rfl
 have qBx1 : (((w1.alloc (.cells #[.int .i64 za, .slice ada la.length ca] 34)).alloc (.cells #[.int .i64 ab, .slice adb lb.length cb] 38)).alloc (.cells #[.string x.k, .int .i64 x.n, .bool x.g] 52)).cell? ⟨w1.heap.size + 1 + 1, 1, none⟩ = some (.int .i64 x.n) := by rw [Bx_t9.cell]; rfl
 have qBx2 : (((w1.alloc (.cells #[.int .i64 za, .slice ada la.length ca] 34)).alloc (.cells #[.int .i64 ab, .slice adb lb.length cb] 38)).alloc (.cells #[.string x.k, .int .i64 x.n, .bool x.g] 52)).cell? ⟨w1.heap.size + 1 + 1, 2, none⟩ = some (.bool x.g) := by rw [Bx_t9.cell]; rfl
 go_wp2_with fail
 clear qBa0 qBa1 qBb0 qBb1 qBx0 qBx1 qBx2
 refine (implWorkPutO a_t10 b_t10 hfa hfb hx (by omega) (by omega)).mono ?_
 rw [HRR.out.1, HRR.out.2.1, HRR.out.2.2]
 rintro e w2 ⟨Vy, rfl, y_n, hb2⟩
 obtain ⟨ady, cy, rfl, ry1_y, ry2_y, ry3_y⟩ := y_n.read
 clear ry1_y ry2_y ry3_y
 have a_t12 := a_t10.next hb2
 clear a_t10
 have b_t12 := b_t10.next hb2
 clear b_t10
 have Ba_t12 := Ba_t10.next hb2
 clear Ba_t10
 have Bb_t12 := Bb_t10.next hb2
 clear Bb_t10
 have Bx_t12 := Bx_t9.next hb2
 clear Bx_t9
 have hw_t12 := below_next hw_t10 hb2
 have hs_t12 := hb2.size
 have hb_t14 := below_alloc (Below.refl _ w2) (.cells #[.int .i64 RA, .slice ady RW.length cy] 38)
 have By_t14 := blkA w2 #[.int .i64 RA, .slice ady RW.length cy] 38
 have hz_t14 : (w2.alloc (.cells #[.int .i64 RA, .slice ady RW.length cy] 38)).heap.size = w2.heap.size + 1 := World.size_alloc _ _
 have a_t15 := a_t12.next hb_t14
 clear a_t12
 have b_t15 := b_t12.next hb_t14
 clear b_t12
 have y_t15 := y_n.next hb_t14
 clear y_n
 have Ba_t15 := Ba_t12.next hb_t14
 clear Ba_t12
 have Bb_t15 := Bb_t12.next hb_t14
 clear Bb_t12
 have Bx_t15 := Bx_t12.next hb_t14
 clear Bx_t12
 have hw_t15 := below_next hw_t12 hb_t14
 have hs_t15 := hb_t14.size
 have qBa0 : (w2.alloc (.cells #[.int .i64 RA, .slice ady RW.length cy] 38)).cell? ⟨w1.heap.size, 0, none⟩ = some (.int .i64 za) := by rw [Ba_t15.cell]; rfl
 have qBa1 : (w2.alloc (.cells #[.int .i64 RA, .slice ady RW.length cy] 38)).cell? ⟨w1.heap.size, 1, none⟩ = some (.slice ada la.length ca) := by rw [Ba_t15.cell]; rfl
 have qBb0 : (w2.alloc (.cells #[.int .i64 RA, .slice ady RW.length cy] 38)).cell? ⟨w1.heap.size + 1, 0, none⟩ = some (.int .i64 ab) := by rw [Bb_t15.cell]; rfl
 have qBb1 : (w2.alloc (.cells #[.int .i64 RA, .slice ady RW.length cy] 38)).cell? ⟨w1.heap.size + 1, 1, none⟩ = some (.slice adb lb.length cb) := by rw [Bb_t15.cell]; rfl
 have qBx0 : (w2.alloc (.cells #[.int .i64 RA, .slice ady RW.length cy] 38)).cell? ⟨w1.heap.size + 1 + 1, 0, none⟩ = some (.string x.k) := by rw [Bx_t15.cell]; rfl
 have qBx1 : (w2.alloc (.cells #[.int .i64 RA, .slice ady RW.length cy] 38)).cell? ⟨w1.heap.size + 1 + 1, 1, none⟩ = some (.int .i64 x.n) := by rw [Bx_t15.cell]; rfl
 have qBx2 : (w2.alloc (.cells #[.int .i64 RA, .slice ady RW.length cy] 38)).cell? ⟨w1.heap.size + 1 + 1, 2, none⟩ = some (.bool x.g) := by rw [Bx_t15.cell]; rfl
 have qBy0 : (w2.alloc (.cells #[.int .i64 RA, .slice ady RW.length cy] 38)).cell? ⟨w2.heap.size, 0, none⟩ = some (.int .i64 RA) := by rw [By_t14.cell]; rfl
 have qBy1 : (w2.alloc (.cells #[.int .i64 RA, .slice ady RW.length cy] 38)).cell? ⟨w2.heap.size, 1, none⟩ = some (.slice ady RW.length cy) := by rw [By_t14.cell]; rfl
 go_wp2_with fail
 clear qBa0 qBa1 qBb0 qBb1 qBx0 qBx1 qBx2 qBy0 qBy1
 refine (specWorkPutO a_t15 b_t15 hfa hfb hx (by omega) (by omega)).mono ?_
 rw [HRR.out.1, HRR.out.2.1, HRR.out.2.2]
 rintro e w3 ⟨Vz, rfl, z_n, hb3⟩
 obtain ⟨adz, cz, rfl, ry1_z, ry2_z, ry3_z⟩ := z_n.read
 clear ry1_z ry2_z ry3_z
 have a_t17 := a_t15.next hb3
 clear a_t15
 have b_t17 := b_t15.next hb3
 clear b_t15
 have y_t17 := y_t15.next hb3
 clear y_t15
 have Ba_t17 := Ba_t15.next hb3
 clear Ba_t15
 have Bb_t17 := Bb_t15.next hb3
 clear Bb_t15
 have Bx_t17 := Bx_t15.next hb3
 clear Bx_t15
 have By_t17 := By_t14.next hb3
 clear By_t14
 have hw_t17 := below_next hw_t15 hb3
 have hs_t17 := hb3.size
 have hb_t19 := below_alloc (Below.refl _ w3) (.cells #[.int .i64 RA, .slice adz RW.length cz] 38)
 have Bz_t19 := blkA w3 #[.int .i64 RA, .slice adz RW.length cz] 38
 have hz_t19 : (w3.alloc (.cells #[.int .i64 RA, .slice adz RW.length cz] 38)).heap.size = w3.heap.size + 1 := World.size_alloc _ _
 have a_t20 := a_t17.next hb_t19
 clear a_t17
 have b_t20 := b_t17.next hb_t19
 clear b_t17
 have y_t20 := y_t17.next hb_t19
 clear y_t17
 have z_t20 := z_n.next hb_t19
 clear z_n
 have Ba_t20 := Ba_t17.next hb_t19
 clear Ba_t17
 have Bb_t20 := Bb_t17.next hb_t19
 clear Bb_t17
 have Bx_t20 := Bx_t17.next hb_t19
 clear Bx_t17
 have By_t20 := By_t17.next hb_t19
 clear By_t17
 have hw_t20 := below_next hw_t17 hb_t19
 have hs_t20 := hb_t19.size
 obtain ⟨KB, HKB⟩ : ∃ KB, Hid (workB za la ab lb = KB) := ⟨_, Lib.hid rfl⟩
 have hkk : (KB != KB) = false := by cases KB <;> rfl
 have hrc : (RC != RC) = false := by simp
 have qBa0 : (w3.alloc (.cells #[.int .i64 RA, .slice adz RW.length cz] 38)).cell? ⟨w1.heap.size, 0, none⟩ = some (.int .i64 za) := by rw [Ba_t20.cell]; rfl
 have qBa1 : (w3.alloc (.cells #[.int .i64 RA, .slice adz RW.length cz] 38)).cell? ⟨w1.heap.size, 1, none⟩ = some (.slice ada la.length ca) := by rw [Ba_t20.cell]; rfl
 have qBb0 : (w3.alloc (.cells #[.int .i64 RA, .slice adz RW.length cz] 38)).cell? ⟨w1.heap.size + 1, 0, none⟩ = some (.int .i64 ab) := by rw [Bb_t20.cell]; rfl
 have qBb1 : (w3.alloc (.cells #[.int .i64 RA, .slice adz RW.length cz] 38)).cell? ⟨w1.heap.size + 1, 1, none⟩ = some (.slice adb lb.length cb) := by rw [Bb_t20.cell]; rfl
 have qBx0 : (w3.alloc (.cells #[.int .i64 RA, .slice adz RW.length cz] 38)).cell? ⟨w1.heap.size + 1 + 1, 0, none⟩ = some (.string x.k) := by rw [Bx_t20.cell]; rfl
 have qBx1 : (w3.alloc (.cells #[.int .i64 RA, .slice adz RW.length cz] 38)).cell? ⟨w1.heap.size + 1 + 1, 1, none⟩ = some (.int .i64 x.n) := by rw [Bx_t20.cell]; rfl
 have qBx2 : (w3.alloc (.cells #[.int .i64 RA, .slice adz RW.length cz] 38)).cell? ⟨w1.heap.size + 1 + 1, 2, none⟩ = some (.bool x.g) := by rw [Bx_t20.cell]; rfl
 have qBy0 : (w3.alloc (.cells #[.int .i64 RA, .slice adz RW.length cz] 38)).cell? ⟨w2.heap.size, 0, none⟩ = some (.int .i64 RA) := by rw [By_t20.cell]; rfl
 have qBy1 : (w3.alloc (.cells #[.int .i64 RA, .slice adz RW.length cz] 38)).cell? ⟨w2.heap.size, 1, none⟩ = some (.slice ady RW.length cy) := by rw [By_t20.cell]; rfl
 have qBz0 : (w3.alloc (.cells #[.int .i64 RA, .slice adz RW.length cz] 38)).cell? ⟨w3.heap.size, 0, none⟩ = some (.int .i64 RA) := by rw [Bz_t19.cell]; rfl
 have qBz1 : (w3.alloc (.cells #[.int .i64 RA, .slice adz RW.length cz] 38)).cell? ⟨w3.heap.size, 1, none⟩ = some (.slice adz RW.length cz) := by rw [Bz_t19.cell]; rfl
 go_wp2
 clear qBa0 qBa1 qBb0 qBb1 qBx0 qBx1 qBx2 qBy0 qBy1 qBz0 qBz1
 have hb_t22 : Below (w3.alloc (.cells #[.int .i64 RA, .slice adz RW.length cz] 38)).heap.size (w3.alloc (.cells #[.int .i64 RA, .slice adz RW.length cz] 38)) (w3.alloc (.cells #[.int .i64 RA, .slice adz RW.length cz] 38)).drew := (Below.refl _ _).drew
 have a_t23 := a_t20.next hb_t22
 clear a_t20
 have b_t23 := b_t20.next hb_t22
 clear b_t20
 have y_t23 := y_t20.next hb_t22
 clear y_t20
 have z_t23 := z_t20.next hb_t22
 clear z_t20
 have Ba_t23 := Ba_t20.next hb_t22
 clear Ba_t20
 have Bb_t23 := Bb_t20.next hb_t22
 clear Bb_t20
 have Bx_t23 := Bx_t20.next hb_t22
 clear Bx_t20
 have By_t23 := By_t20.next hb_t22
 clear By_t20
 have Bz_t23 := Bz_t19.next hb_t22
 clear Bz_t19
 have hw_t23 := below_next hw_t20 hb_t22
 have hs_t23 := hb_t22.size
 refine wp_region_held_drew (S := (fun W => W.cell? ⟨w1.heap.size, 0, none⟩ = some (.int .i64 za) ∧ W.cell? ⟨w1.heap.size, 1, none⟩ = some (.slice ada la.length ca) ∧ W.cell? ⟨w1.heap.size + 1, 0, none⟩ = some (.int .i64 ab) ∧ W.cell? ⟨w1.heap.size + 1, 1, none⟩ = some (.slice adb lb.length cb) ∧ W.cell? ⟨w1.heap.size + 1 + 1, 0, none⟩ = some (.string x.k) ∧ W.cell? ⟨w1.heap.size + 1 + 1, 1, none⟩ = some (.int .i64 x.n) ∧ W.cell? ⟨w1.heap.size + 1 + 1, 2, none⟩ = some (.bool x.g) ∧ W.cell? ⟨w2.heap.size, 0, none⟩ = some (.int .i64 RA) ∧ W.cell? ⟨w2.heap.size, 1, none⟩ = some (.slice ady RW.length cy) ∧ W.cell? ⟨w3.heap.size, 0, none⟩ = some (.int .i64 RA) ∧ W.cell? ⟨w3.heap.size, 1, none⟩ = some (.slice adz RW.length cz))) (by kernel_rfl) ?_ (fun hHeld => ?_)
 focus ((try dsimp only); (exact ⟨by rw [Ba_t23.cell]; rfl, by rw [Ba_t23.cell]; rfl, by rw [Bb_t23.cell]; rfl, by rw [Bb_t23.cell]; rfl, by rw [Bx_t23.cell]; rfl, by rw [Bx_t23.cell]; rfl, by rw [Bx_t23.cell]; rfl, by rw [By_t23.cell]; rfl, by rw [By_t23.cell]; rfl, by rw [Bz_t23.cell]; rfl, by rw [Bz_t23.cell]; rfl⟩))
 refine tk 0 ?_
 refine tk 1 ?_
 refine tk 2 ?_
 refine tk 3 ?_
 refine tk 4 ?_
 refine tk 5 ?_
 (refine rd1 6 (fun K hK => ?_); go_simp; (go_at_call 38; refine (implWorkSameO y_t23 z_t23 (by omega) (by omega)).mono ?_; rintro e w4 ⟨rfl, hb4⟩; rw [sameW_refl]; have a_t25 := a_t23.next hb4; clear a_t23; have b_t25 := b_t23.next hb4; clear b_t23; have y_t25 := y_t23.next hb4; clear y_t23; have z_t25 := z_t23.next hb4; clear z_t23; have Ba_t25 := Ba_t23.next hb4; clear Ba_t23; have Bb_t25 := Bb_t23.next hb4; clear Bb_t23; have Bx_t25 := Bx_t23.next hb4; clear Bx_t23; have By_t25 := By_t23.next hb4; clear By_t23; have Bz_t25 := Bz_t23.next hb4; clear Bz_t23; have hw_t25 := below_next hw_t23 hb4; have hs_t25 := hb4.size); go_wp2_with fail; refine hK.out _ _ ?_ (fun hHeld => ?_); (focus ((try dsimp only); (exact ⟨by rw [Ba_t25.cell]; rfl, by rw [Ba_t25.cell]; rfl, by rw [Bb_t25.cell]; rfl, by rw [Bb_t25.cell]; rfl, by rw [Bx_t25.cell]; rfl, by rw [Bx_t25.cell]; rfl, by rw [Bx_t25.cell]; rfl, by rw [By_t25.cell]; rfl, by rw [By_t25.cell]; rfl, by rw [Bz_t25.cell]; rfl, by rw [Bz_t25.cell]; rfl⟩))); clear hK K; (try simp only [Act.put, pa, pb, pc]))
 refine tk 7 ?_
 refine tk 8 ?_
 refine tk 9 ?_
 refine tk 10 ?_
 refine tk 11 ?_
 refine tk 13 ?_
 refine tk 14 ?_
 (refine rd1 12 (fun K hK => ?_); go_simp; (go_at_call 39; refine (implWorkOkO a_t25 b_t25 hfa hfb (by omega) (by omega)).mono ?_; rintro e w5 ⟨rfl, hb5⟩; rw [HKB.out]; have a_t27 := a_t25.next hb5; clear a_t25; have b_t27 := b_t25.next hb5; clear b_t25; have y_t27 := y_t25.next hb5; clear y_t25; have z_t27 := z_t25.next hb5; clear z_t25; have Ba_t27 := Ba_t25.next hb5; clear Ba_t25; have Bb_t27 := Bb_t25.next hb5; clear Bb_t25; have Bx_t27 := Bx_t25.next hb5; clear Bx_t25; have By_t27 := By_t25.next hb5; clear By_t25; have Bz_t27 := Bz_t25.next hb5; clear Bz_t25; have hw_t27 := below_next hw_t25 hb5; have hs_t27 := hb5.size); go_wp2_with fail; refine hK.out _ _ ?_ (fun hHeld => ?_); (focus ((try dsimp only); (exact ⟨by rw [Ba_t27.cell]; rfl, by rw [Ba_t27.cell]; rfl, by rw [Bb_t27.cell]; rfl, by rw [Bb_t27.cell]; rfl, by rw [Bx_t27.cell]; rfl, by rw [Bx_t27.cell]; rfl, by rw [Bx_t27.cell]; rfl, by rw [By_t27.cell]; rfl, by rw [By_t27.cell]; rfl, by rw [Bz_t27.cell]; rfl, by rw [Bz_t27.cell]; rfl⟩))); clear hK K; (try simp only [Act.put, pa, pb, pc]))
 (refine rd1 15 (fun K hK => ?_); go_simp; (go_at_call 40; refine (specWorkOkO a_t27 b_t27 hfa hfb (by omega) (by omega)).mono ?_; rintro e w6 ⟨rfl, hb6⟩; rw [HKB.out]; have a_t29 := a_t27.next hb6; clear a_t27; have b_t29 := b_t27.next hb6; clear b_t27; have y_t29 := y_t27.next hb6; clear y_t27; have z_t29 := z_t27.next hb6; clear z_t27; have Ba_t29 := Ba_t27.next hb6; clear Ba_t27; have Bb_t29 := Bb_t27.next hb6; clear Bb_t27; have Bx_t29 := Bx_t27.next hb6; clear Bx_t27; have By_t29 := By_t27.next hb6; clear By_t27; have Bz_t29 := Bz_t27.next hb6; clear Bz_t27; have hw_t29 := below_next hw_t27 hb6; have hs_t29 := hb6.size); go_wp2_with fail; refine hK.out _ _ ?_ (fun hHeld => ?_); (focus ((try dsimp only); (exact ⟨by rw [Ba_t29.cell]; rfl, by rw [Ba_t29.cell]; rfl, by rw [Bb_t29.cell]; rfl, by rw [Bb_t29.cell]; rfl, by rw [Bx_t29.cell]; rfl, by rw [Bx_t29.cell]; rfl, by rw [Bx_t29.cell]; rfl, by rw [By_t29.cell]; rfl, by rw [By_t29.cell]; rfl, by rw [Bz_t29.cell]; rfl, by rw [Bz_t29.cell]; rfl⟩))); clear hK K; (try simp only [Act.put, pa, pb, pc]))
 refine tk 16 ?_
 refine tk 17 ?_
 refine wpAnyH_done (by kernel_rfl) ?_ _
 clear z_t29
 clear hkk hrc
 by_cases hc : RC = 0
 ·
  subst hc
  obtain ⟨hl6, hp6, e1, e2⟩ := fine_put HRR.out.2.2
  have hRA : ab = RA := e1.symm.trans HRR.out.1
  have HRW : Hid (RW = putXs lb x) := Lib.hid (HRR.out.2.1.symm.trans e2)
  have HC0 : Hid (wputC za la ab lb x = 0) := Lib.hid HRR.out.2.2
  rw [← HRW.out] at hp6
  have hfW : FitXs RW := by rw [HRW.out]; exact hfb.putXs hx
  clear HRR e1 e2
  subst hRA
  have HS := put_sees HC0.out
  rw [← HRW.out] at HS
  have HS := Lib.hid HS
  have hl_R1 := workRows_length za la ab lb
  have hf_R1 : FitR (workRows za la ab lb) := fitR_work hfa hfb
  obtain ⟨R1, HR1⟩ : ∃ R1, Hid (workRows za la ab lb = R1) := ⟨_, Lib.hid rfl⟩
  rw [HR1.out] at hl_R1 hf_R1
  have hl_R2 := workRows_length za la ab RW
  have hf_R2 : FitR (workRows za la ab RW) := fitR_work hfa hfW
  obtain ⟨R2, HR2⟩ : ∃ R2, Hid (workRows za la ab RW = R2) := ⟨_, Lib.hid rfl⟩
  rw [HR2.out] at hl_R2 hf_R2
  rw [HR1.out, HR2.out] at HS
  have qBa0 : w6.cell? ⟨w1.heap.size, 0, none⟩ = some (.int .i64 za) := by rw [Ba_t29.cell]; rfl
  have qBa1 : w6.cell? ⟨w1.heap.size, 1, none⟩ = some (.slice ada la.length ca) := by rw [Ba_t29.cell]; rfl
  have qBb0 : w6.cell? ⟨w1.heap.size + 1, 0, none⟩ = some (.int .i64 ab) := by rw [Bb_t29.cell]; rfl
  have qBb1 : w6.cell? ⟨w1.heap.size + 1, 1, none⟩ = some (.slice adb lb.length cb) := by rw [Bb_t29.cell]; rfl
  have qBx0 : w6.cell? ⟨w1.heap.size + 1 + 1, 0, none⟩ = some (.string x.k) := by rw [Bx_t29.cell]; rfl
  have qBx1 : w6.cell? ⟨w1.heap.size + 1 + 1, 1, none⟩ = some (.int .i64 x.n) := by rw [Bx_t29.cell]; rfl
  have qBx2 : w6.cell? ⟨w1.heap.size + 1 + 1, 2, none⟩ = some (.bool x.g) := by rw [Bx_t29.cell]; rfl
  have qBy0 : w6.cell? ⟨w2.heap.size, 0, none⟩ = some (.int .i64 ab) := by rw [By_t29.cell]; rfl
  have qBy1 : w6.cell? ⟨w2.heap.size, 1, none⟩ = some (.slice ady RW.length cy) := by rw [By_t29.cell]; rfl
  go_wp2_with fail
  clear qBa0 qBa1 qBb0 qBb1 qBx0 qBx1 qBx2 qBy0 qBy1
  refine (implWorkRowsO a_t29 b_t29 hfa hfb (by omega) (by omega)).mono ?_
  rw [HR1.out]
  rintro e w7 ⟨Vr, rfl, r_n, hb7⟩
  obtain ⟨adr, cr, rfl, ry1_r, ry2_r, ry3_r⟩ := r_n.read
  clear ry1_r ry2_r ry3_r
  have a_t31 := a_t29.next hb7
  clear a_t29
  have b_t31 := b_t29.next hb7
  clear b_t29
  have y_t31 := y_t29.next hb7
  clear y_t29
  have Ba_t31 := Ba_t29.next hb7
  clear Ba_t29
  have Bb_t31 := Bb_t29.next hb7
  clear Bb_t29
  have Bx_t31 := Bx_t29.next hb7
  clear Bx_t29
  have By_t31 := By_t29.next hb7
  clear By_t29
  have hw_t31 := below_next hw_t29 hb7
  have hs_t31 := hb7.size
  have qBa0 : w7.cell? ⟨w1.heap.size, 0, none⟩ = some (.int .i64 za) := by rw [Ba_t31.cell]; rfl
  have qBa1 : w7.cell? ⟨w1.heap.size, 1, none⟩ = some (.slice ada la.length ca) := by rw [Ba_t31.cell]; rfl
  have qBb0 : w7.cell? ⟨w1.heap.size + 1, 0, none⟩ = some (.int .i64 ab) := by rw [Bb_t31.cell]; rfl
  have qBb1 : w7.cell? ⟨w1.heap.size + 1, 1, none⟩ = some (.slice adb lb.length cb) := by rw [Bb_t31.cell]; rfl
  have qBx0 : w7.cell? ⟨w1.heap.size + 1 + 1, 0, none⟩ = some (.string x.k) := by rw [Bx_t31.cell]; rfl
  have qBx1 : w7.cell? ⟨w1.heap.size + 1 + 1, 1, none⟩ = some (.int .i64 x.n) := by rw [Bx_t31.cell]; rfl
  have qBx2 : w7.cell? ⟨w1.heap.size + 1 + 1, 2, none⟩ = some (.bool x.g) := by rw [Bx_t31.cell]; rfl
  have qBy0 : w7.cell? ⟨w2.heap.size, 0, none⟩ = some (.int .i64 ab) := by rw [By_t31.cell]; rfl
  have qBy1 : w7.cell? ⟨w2.heap.size, 1, none⟩ = some (.slice ady RW.length cy) := by rw [By_t31.cell]; rfl
  go_wp2_with fail
  clear qBa0 qBa1 qBb0 qBb1 qBx0 qBx1 qBx2 qBy0 qBy1
  refine (implWorkRowsO a_t31 y_t31 hfa hfW (by omega) (by omega)).mono ?_
  rw [HR2.out]
  rintro e w8 ⟨Vq, rfl, q_n, hb8⟩
  obtain ⟨adq, cq, rfl, ry1_q, ry2_q, ry3_q⟩ := q_n.read
  clear ry1_q ry2_q ry3_q
  have a_t33 := a_t31.next hb8
  clear a_t31
  have b_t33 := b_t31.next hb8
  clear b_t31
  have y_t33 := y_t31.next hb8
  clear y_t31
  have r_t33 := r_n.next hb8
  clear r_n
  have Ba_t33 := Ba_t31.next hb8
  clear Ba_t31
  have Bb_t33 := Bb_t31.next hb8
  clear Bb_t31
  have Bx_t33 := Bx_t31.next hb8
  clear Bx_t31
  have By_t33 := By_t31.next hb8
  clear By_t31
  have hw_t33 := below_next hw_t31 hb8
  have hs_t33 := hb8.size
  have hcl := cutV_length R1 x.k
  obtain ⟨C, HC⟩ : ∃ C, Hid (cutV R1 x.k = C) := ⟨_, Lib.hid rfl⟩
  rw [HC.out] at hcl
  have HCC : Hid (cutV R2 x.k = C) := Lib.hid (HS.out.2.2.1.symm.trans HC.out)
  cases hg : x.g
  ·
   have HG : Hid (getN R2 x.k = x.n ∧ getB R2 x.k = true) := Lib.hid ⟨HS.out.2.1 hg, by rw [HS.out.1, hg]; rfl⟩
   have qBa0 : w8.cell? ⟨w1.heap.size, 0, none⟩ = some (.int .i64 za) := by rw [Ba_t33.cell]; rfl
   have qBa1 : w8.cell? ⟨w1.heap.size, 1, none⟩ = some (.slice ada la.length ca) := by rw [Ba_t33.cell]; rfl
   have qBb0 : w8.cell? ⟨w1.heap.size + 1, 0, none⟩ = some (.int .i64 ab) := by rw [Bb_t33.cell]; rfl
   have qBb1 : w8.cell? ⟨w1.heap.size + 1, 1, none⟩ = some (.slice adb lb.length cb) := by rw [Bb_t33.cell]; rfl
   have qBx0 : w8.cell? ⟨w1.heap.size + 1 + 1, 0, none⟩ = some (.string x.k) := by rw [Bx_t33.cell]; rfl
   have qBx1 : w8.cell? ⟨w1.heap.size + 1 + 1, 1, none⟩ = some (.int .i64 x.n) := by rw [Bx_t33.cell]; rfl
   have qBx2 : w8.cell? ⟨w1.heap.size + 1 + 1, 2, none⟩ = some (.bool x.g) := by rw [Bx_t33.cell]; rfl
   have qBy0 : w8.cell? ⟨w2.heap.size, 0, none⟩ = some (.int .i64 ab) := by rw [By_t33.cell]; rfl
   have qBy1 : w8.cell? ⟨w2.heap.size, 1, none⟩ = some (.slice ady RW.length cy) := by rw [By_t33.cell]; rfl
   go_wp2_with fail
   clear qBa0 qBa1 qBb0 qBb1 qBx0 qBx1 qBx2 qBy0 qBy1
   refine (implGetO x.k q_n hf_R2 (by omega)).mono ?_
   rintro e w9 ⟨rfl, hb9⟩
   rw [HG.out.1, HG.out.2]
   have a_t35 := a_t33.next hb9
   clear a_t33
   have b_t35 := b_t33.next hb9
   clear b_t33
   have y_t35 := y_t33.next hb9
   clear y_t33
   have r_t35 := r_t33.next hb9
   clear r_t33
   have q_t35 := q_n.next hb9
   clear q_n
   have Ba_t35 := Ba_t33.next hb9
   clear Ba_t33
   have Bb_t35 := Bb_t33.next hb9
   clear Bb_t33
   have Bx_t35 := Bx_t33.next hb9
   clear Bx_t33
   have By_t35 := By_t33.next hb9
   clear By_t33
   have hw_t35 := below_next hw_t33 hb9
   have hs_t35 := hb9.size
   have qBa0 : w9.cell? ⟨w1.heap.size, 0, none⟩ = some (.int .i64 za) := by rw [Ba_t35.cell]; rfl
   have qBa1 : w9.cell? ⟨w1.heap.size, 1, none⟩ = some (.slice ada la.length ca) := by rw [Ba_t35.cell]; rfl
   have qBb0 : w9.cell? ⟨w1.heap.size + 1, 0, none⟩ = some (.int .i64 ab) := by rw [Bb_t35.cell]; rfl
   have qBb1 : w9.cell? ⟨w1.heap.size + 1, 1, none⟩ = some (.slice adb lb.length cb) := by rw [Bb_t35.cell]; rfl
   have qBx0 : w9.cell? ⟨w1.heap.size + 1 + 1, 0, none⟩ = some (.string x.k) := by rw [Bx_t35.cell]; rfl
   have qBx1 : w9.cell? ⟨w1.heap.size + 1 + 1, 1, none⟩ = some (.int .i64 x.n) := by rw [Bx_t35.cell]; rfl
   have qBx2 : w9.cell? ⟨w1.heap.size + 1 + 1, 2, none⟩ = some (.bool x.g) := by rw [Bx_t35.cell]; rfl
   have qBy0 : w9.cell? ⟨w2.heap.size, 0, none⟩ = some (.int .i64 ab) := by rw [By_t35.cell]; rfl
   have qBy1 : w9.cell? ⟨w2.heap.size, 1, none⟩ = some (.slice ady RW.length cy) := by rw [By_t35.cell]; rfl
   go_wp2_with fail
   clear qBa0 qBa1 qBb0 qBb1 qBx0 qBx1 qBx2 qBy0 qBy1
   refine (implCutO x.k r_t35 hf_R1 (by omega)).mono ?_
   rw [HC.out]
   rintro e w10 ⟨Vs, rfl, s_n, hb10⟩
   obtain ⟨ads, cs, rfl, ry1_s, ry2_s, ry3_s⟩ := s_n.read
   clear ry1_s ry2_s ry3_s
   have a_t37 := a_t35.next hb10
   clear a_t35
   have b_t37 := b_t35.next hb10
   clear b_t35
   have y_t37 := y_t35.next hb10
   clear y_t35
   have r_t37 := r_t35.next hb10
   clear r_t35
   have q_t37 := q_t35.next hb10
   clear q_t35
   have Ba_t37 := Ba_t35.next hb10
   clear Ba_t35
   have Bb_t37 := Bb_t35.next hb10
   clear Bb_t35
   have Bx_t37 := Bx_t35.next hb10
   clear Bx_t35
   have By_t37 := By_t35.next hb10
   clear By_t35
   have hw_t37 := below_next hw_t35 hb10
   have hs_t37 := hb10.size
   have qBa0 : w10.cell? ⟨w1.heap.size, 0, none⟩ = some (.int .i64 za) := by rw [Ba_t37.cell]; rfl
   have qBa1 : w10.cell? ⟨w1.heap.size, 1, none⟩ = some (.slice ada la.length ca) := by rw [Ba_t37.cell]; rfl
   have qBb0 : w10.cell? ⟨w1.heap.size + 1, 0, none⟩ = some (.int .i64 ab) := by rw [Bb_t37.cell]; rfl
   have qBb1 : w10.cell? ⟨w1.heap.size + 1, 1, none⟩ = some (.slice adb lb.length cb) := by rw [Bb_t37.cell]; rfl
   have qBx0 : w10.cell? ⟨w1.heap.size + 1 + 1, 0, none⟩ = some (.string x.k) := by rw [Bx_t37.cell]; rfl
   have qBx1 : w10.cell? ⟨w1.heap.size + 1 + 1, 1, none⟩ = some (.int .i64 x.n) := by rw [Bx_t37.cell]; rfl
   have qBx2 : w10.cell? ⟨w1.heap.size + 1 + 1, 2, none⟩ = some (.bool x.g) := by rw [Bx_t37.cell]; rfl
   have qBy0 : w10.cell? ⟨w2.heap.size, 0, none⟩ = some (.int .i64 ab) := by rw [By_t37.cell]; rfl
   have qBy1 : w10.cell? ⟨w2.heap.size, 1, none⟩ = some (.slice ady RW.length cy) := by rw [By_t37.cell]; rfl
   go_wp2_with fail
   clear qBa0 qBa1 qBb0 qBb1 qBx0 qBx1 qBx2 qBy0 qBy1
   refine (implCutO x.k q_t37 hf_R2 (by omega)).mono ?_
   rw [HCC.out]
   rintro e w11 ⟨Vt, rfl, t_n, hb11⟩
   obtain ⟨adt, ct, rfl, ry1_t, ry2_t, ry3_t⟩ := t_n.read
   clear ry1_t ry2_t ry3_t
   have a_t39 := a_t37.next hb11
   clear a_t37
   have b_t39 := b_t37.next hb11
   clear b_t37
   have y_t39 := y_t37.next hb11
   clear y_t37
   have r_t39 := r_t37.next hb11
   clear r_t37
   have q_t39 := q_t37.next hb11
   clear q_t37
   have s_t39 := s_n.next hb11
   clear s_n
   have Ba_t39 := Ba_t37.next hb11
   clear Ba_t37
   have Bb_t39 := Bb_t37.next hb11
   clear Bb_t37
   have Bx_t39 := Bx_t37.next hb11
   clear Bx_t37
   have By_t39 := By_t37.next hb11
   clear By_t37
   have hw_t39 := below_next hw_t37 hb11
   have hs_t39 := hb11.size
   have qBa0 : w11.cell? ⟨w1.heap.size, 0, none⟩ = some (.int .i64 za) := by rw [Ba_t39.cell]; rfl
   have qBa1 : w11.cell? ⟨w1.heap.size, 1, none⟩ = some (.slice ada la.length ca) := by rw [Ba_t39.cell]; rfl
   have qBb0 : w11.cell? ⟨w1.heap.size + 1, 0, none⟩ = some (.int .i64 ab) := by rw [Bb_t39.cell]; rfl
   have qBb1 : w11.cell? ⟨w1.heap.size + 1, 1, none⟩ = some (.slice adb lb.length cb) := by rw [Bb_t39.cell]; rfl
   have qBx0 : w11.cell? ⟨w1.heap.size + 1 + 1, 0, none⟩ = some (.string x.k) := by rw [Bx_t39.cell]; rfl
   have qBx1 : w11.cell? ⟨w1.heap.size + 1 + 1, 1, none⟩ = some (.int .i64 x.n) := by rw [Bx_t39.cell]; rfl
   have qBx2 : w11.cell? ⟨w1.heap.size + 1 + 1, 2, none⟩ = some (.bool x.g) := by rw [Bx_t39.cell]; rfl
   have qBy0 : w11.cell? ⟨w2.heap.size, 0, none⟩ = some (.int .i64 ab) := by rw [By_t39.cell]; rfl
   have qBy1 : w11.cell? ⟨w2.heap.size, 1, none⟩ = some (.slice ady RW.length cy) := by rw [By_t39.cell]; rfl
   go_wp2_with fail
   clear qBa0 qBa1 qBb0 qBb1 qBx0 qBx1 qBx2 qBy0 qBy1
   refine (wpO s_t39 t_n (by omega) (by omega)).mono ?_
   rintro e w12 ⟨rfl, hb12⟩
   rw [eqL_yes rfl]
   have a_t41 := a_t39.next hb12
   clear a_t39
   have b_t41 := b_t39.next hb12
   clear b_t39
   have y_t41 := y_t39.next hb12
   clear y_t39
   have r_t41 := r_t39.next hb12
   clear r_t39
   have q_t41 := q_t39.next hb12
   clear q_t39
   have s_t41 := s_t39.next hb12
   clear s_t39
   have t_t41 := t_n.next hb12
   clear t_n
   have Ba_t41 := Ba_t39.next hb12
   clear Ba_t39
   have Bb_t41 := Bb_t39.next hb12
   clear Bb_t39
   have Bx_t41 := Bx_t39.next hb12
   clear Bx_t39
   have By_t41 := By_t39.next hb12
   clear By_t39
   have hw_t41 := below_next hw_t39 hb12
   have hs_t41 := hb12.size
   have qBa0 : w12.cell? ⟨w1.heap.size, 0, none⟩ = some (.int .i64 za) := by rw [Ba_t41.cell]; rfl
   have qBa1 : w12.cell? ⟨w1.heap.size, 1, none⟩ = some (.slice ada la.length ca) := by rw [Ba_t41.cell]; rfl
   have qBb0 : w12.cell? ⟨w1.heap.size + 1, 0, none⟩ = some (.int .i64 ab) := by rw [Bb_t41.cell]; rfl
   have qBb1 : w12.cell? ⟨w1.heap.size + 1, 1, none⟩ = some (.slice adb lb.length cb) := by rw [Bb_t41.cell]; rfl
   have qBx0 : w12.cell? ⟨w1.heap.size + 1 + 1, 0, none⟩ = some (.string x.k) := by rw [Bx_t41.cell]; rfl
   have qBx1 : w12.cell? ⟨w1.heap.size + 1 + 1, 1, none⟩ = some (.int .i64 x.n) := by rw [Bx_t41.cell]; rfl
   have qBx2 : w12.cell? ⟨w1.heap.size + 1 + 1, 2, none⟩ = some (.bool x.g) := by rw [Bx_t41.cell]; rfl
   have qBy0 : w12.cell? ⟨w2.heap.size, 0, none⟩ = some (.int .i64 ab) := by rw [By_t41.cell]; rfl
   have qBy1 : w12.cell? ⟨w2.heap.size, 1, none⟩ = some (.slice ady RW.length cy) := by rw [By_t41.cell]; rfl
   go_wp2_with fail
   clear qBa0 qBa1 qBb0 qBb1 qBx0 qBx1 qBx2 qBy0 qBy1
   refine (implWorkOkO a_t41 y_t41 hfa hfW (by omega) (by omega)).mono ?_
   rintro e w13 ⟨rfl, hb13⟩
   rw [HS.out.2.2.2]
   have a_t43 := a_t41.next hb13
   clear a_t41
   have b_t43 := b_t41.next hb13
   clear b_t41
   have y_t43 := y_t41.next hb13
   clear y_t41
   have r_t43 := r_t41.next hb13
   clear r_t41
   have q_t43 := q_t41.next hb13
   clear q_t41
   have s_t43 := s_t41.next hb13
   clear s_t41
   have t_t43 := t_t41.next hb13
   clear t_t41
   have Ba_t43 := Ba_t41.next hb13
   clear Ba_t41
   have Bb_t43 := Bb_t41.next hb13
   clear Bb_t41
   have Bx_t43 := Bx_t41.next hb13
   clear Bx_t41
   have By_t43 := By_t41.next hb13
   clear By_t41
   have hw_t43 := below_next hw_t41 hb13
   have hs_t43 := hb13.size
   have qBa0 : w13.cell? ⟨w1.heap.size, 0, none⟩ = some (.int .i64 za) := by rw [Ba_t43.cell]; rfl
   have qBa1 : w13.cell? ⟨w1.heap.size, 1, none⟩ = some (.slice ada la.length ca) := by rw [Ba_t43.cell]; rfl
   have qBb0 : w13.cell? ⟨w1.heap.size + 1, 0, none⟩ = some (.int .i64 ab) := by rw [Bb_t43.cell]; rfl
   have qBb1 : w13.cell? ⟨w1.heap.size + 1, 1, none⟩ = some (.slice adb lb.length cb) := by rw [Bb_t43.cell]; rfl
   have qBx0 : w13.cell? ⟨w1.heap.size + 1 + 1, 0, none⟩ = some (.string x.k) := by rw [Bx_t43.cell]; rfl
   have qBx1 : w13.cell? ⟨w1.heap.size + 1 + 1, 1, none⟩ = some (.int .i64 x.n) := by rw [Bx_t43.cell]; rfl
   have qBx2 : w13.cell? ⟨w1.heap.size + 1 + 1, 2, none⟩ = some (.bool x.g) := by rw [Bx_t43.cell]; rfl
   have qBy0 : w13.cell? ⟨w2.heap.size, 0, none⟩ = some (.int .i64 ab) := by rw [By_t43.cell]; rfl
   have qBy1 : w13.cell? ⟨w2.heap.size, 1, none⟩ = some (.slice ady RW.length cy) := by rw [By_t43.cell]; rfl
   go_wp2
   go_ret
   exact ⟨rfl, hw_t43⟩
  ·
   obtain ⟨GN, HGN⟩ : ∃ GN, Hid (getN R2 x.k = GN) := ⟨_, Lib.hid rfl⟩
   have HG : Hid (getB R2 x.k = false) := Lib.hid (by rw [HS.out.1, hg]; rfl)
   have qBa0 : w8.cell? ⟨w1.heap.size, 0, none⟩ = some (.int .i64 za) := by rw [Ba_t33.cell]; rfl
   have qBa1 : w8.cell? ⟨w1.heap.size, 1, none⟩ = some (.slice ada la.length ca) := by rw [Ba_t33.cell]; rfl
   have qBb0 : w8.cell? ⟨w1.heap.size + 1, 0, none⟩ = some (.int .i64 ab) := by rw [Bb_t33.cell]; rfl
   have qBb1 : w8.cell? ⟨w1.heap.size + 1, 1, none⟩ = some (.slice adb lb.length cb) := by rw [Bb_t33.cell]; rfl
   have qBx0 : w8.cell? ⟨w1.heap.size + 1 + 1, 0, none⟩ = some (.string x.k) := by rw [Bx_t33.cell]; rfl
   have qBx1 : w8.cell? ⟨w1.heap.size + 1 + 1, 1, none⟩ = some (.int .i64 x.n) := by rw [Bx_t33.cell]; rfl
   have qBx2 : w8.cell? ⟨w1.heap.size + 1 + 1, 2, none⟩ = some (.bool x.g) := by rw [Bx_t33.cell]; rfl
   have qBy0 : w8.cell? ⟨w2.heap.size, 0, none⟩ = some (.int .i64 ab) := by rw [By_t33.cell]; rfl
   have qBy1 : w8.cell? ⟨w2.heap.size, 1, none⟩ = some (.slice ady RW.length cy) := by rw [By_t33.cell]; rfl
   go_wp2_with fail
   clear qBa0 qBa1 qBb0 qBb1 qBx0 qBx1 qBx2 qBy0 qBy1
   refine (implGetO x.k q_n hf_R2 (by omega)).mono ?_
   rintro e w9 ⟨rfl, hb9⟩
   rw [HGN.out, HG.out]
   have a_t35 := a_t33.next hb9
   clear a_t33
   have b_t35 := b_t33.next hb9
   clear b_t33
   have y_t35 := y_t33.next hb9
   clear y_t33
   have r_t35 := r_t33.next hb9
   clear r_t33
   have q_t35 := q_n.next hb9
   clear q_n
   have Ba_t35 := Ba_t33.next hb9
   clear Ba_t33
   have Bb_t35 := Bb_t33.next hb9
   clear Bb_t33
   have Bx_t35 := Bx_t33.next hb9
   clear Bx_t33
   have By_t35 := By_t33.next hb9
   clear By_t33
   have hw_t35 := below_next hw_t33 hb9
   have hs_t35 := hb9.size
   have qBa0 : w9.cell? ⟨w1.heap.size, 0, none⟩ = some (.int .i64 za) := by rw [Ba_t35.cell]; rfl
   have qBa1 : w9.cell? ⟨w1.heap.size, 1, none⟩ = some (.slice ada la.length ca) := by rw [Ba_t35.cell]; rfl
   have qBb0 : w9.cell? ⟨w1.heap.size + 1, 0, none⟩ = some (.int .i64 ab) := by rw [Bb_t35.cell]; rfl
   have qBb1 : w9.cell? ⟨w1.heap.size + 1, 1, none⟩ = some (.slice adb lb.length cb) := by rw [Bb_t35.cell]; rfl
   have qBx0 : w9.cell? ⟨w1.heap.size + 1 + 1, 0, none⟩ = some (.string x.k) := by rw [Bx_t35.cell]; rfl
   have qBx1 : w9.cell? ⟨w1.heap.size + 1 + 1, 1, none⟩ = some (.int .i64 x.n) := by rw [Bx_t35.cell]; rfl
   have qBx2 : w9.cell? ⟨w1.heap.size + 1 + 1, 2, none⟩ = some (.bool x.g) := by rw [Bx_t35.cell]; rfl
   have qBy0 : w9.cell? ⟨w2.heap.size, 0, none⟩ = some (.int .i64 ab) := by rw [By_t35.cell]; rfl
   have qBy1 : w9.cell? ⟨w2.heap.size, 1, none⟩ = some (.slice ady RW.length cy) := by rw [By_t35.cell]; rfl
   go_wp2_with fail
   clear qBa0 qBa1 qBb0 qBb1 qBx0 qBx1 qBx2 qBy0 qBy1
   refine (implCutO x.k r_t35 hf_R1 (by omega)).mono ?_
   rw [HC.out]
   rintro e w10 ⟨Vs, rfl, s_n, hb10⟩
   obtain ⟨ads, cs, rfl, ry1_s, ry2_s, ry3_s⟩ := s_n.read
   clear ry1_s ry2_s ry3_s
   have a_t37 := a_t35.next hb10
   clear a_t35
   have b_t37 := b_t35.next hb10
   clear b_t35
   have y_t37 := y_t35.next hb10
   clear y_t35
   have r_t37 := r_t35.next hb10
   clear r_t35
   have q_t37 := q_t35.next hb10
   clear q_t35
   have Ba_t37 := Ba_t35.next hb10
   clear Ba_t35
   have Bb_t37 := Bb_t35.next hb10
   clear Bb_t35
   have Bx_t37 := Bx_t35.next hb10
   clear Bx_t35
   have By_t37 := By_t35.next hb10
   clear By_t35
   have hw_t37 := below_next hw_t35 hb10
   have hs_t37 := hb10.size
   have qBa0 : w10.cell? ⟨w1.heap.size, 0, none⟩ = some (.int .i64 za) := by rw [Ba_t37.cell]; rfl
   have qBa1 : w10.cell? ⟨w1.heap.size, 1, none⟩ = some (.slice ada la.length ca) := by rw [Ba_t37.cell]; rfl
   have qBb0 : w10.cell? ⟨w1.heap.size + 1, 0, none⟩ = some (.int .i64 ab) := by rw [Bb_t37.cell]; rfl
   have qBb1 : w10.cell? ⟨w1.heap.size + 1, 1, none⟩ = some (.slice adb lb.length cb) := by rw [Bb_t37.cell]; rfl
   have qBx0 : w10.cell? ⟨w1.heap.size + 1 + 1, 0, none⟩ = some (.string x.k) := by rw [Bx_t37.cell]; rfl
   have qBx1 : w10.cell? ⟨w1.heap.size + 1 + 1, 1, none⟩ = some (.int .i64 x.n) := by rw [Bx_t37.cell]; rfl
   have qBx2 : w10.cell? ⟨w1.heap.size + 1 + 1, 2, none⟩ = some (.bool x.g) := by rw [Bx_t37.cell]; rfl
   have qBy0 : w10.cell? ⟨w2.heap.size, 0, none⟩ = some (.int .i64 ab) := by rw [By_t37.cell]; rfl
   have qBy1 : w10.cell? ⟨w2.heap.size, 1, none⟩ = some (.slice ady RW.length cy) := by rw [By_t37.cell]; rfl
   go_wp2_with fail
   clear qBa0 qBa1 qBb0 qBb1 qBx0 qBx1 qBx2 qBy0 qBy1
   refine (implCutO x.k q_t37 hf_R2 (by omega)).mono ?_
   rw [HCC.out]
   rintro e w11 ⟨Vt, rfl, t_n, hb11⟩
   obtain ⟨adt, ct, rfl, ry1_t, ry2_t, ry3_t⟩ := t_n.read
   clear ry1_t ry2_t ry3_t
   have a_t39 := a_t37.next hb11
   clear a_t37
   have b_t39 := b_t37.next hb11
   clear b_t37
   have y_t39 := y_t37.next hb11
   clear y_t37
   have r_t39 := r_t37.next hb11
   clear r_t37
   have q_t39 := q_t37.next hb11
   clear q_t37
   have s_t39 := s_n.next hb11
   clear s_n
   have Ba_t39 := Ba_t37.next hb11
   clear Ba_t37
   have Bb_t39 := Bb_t37.next hb11
   clear Bb_t37
   have Bx_t39 := Bx_t37.next hb11
   clear Bx_t37
   have By_t39 := By_t37.next hb11
   clear By_t37
   have hw_t39 := below_next hw_t37 hb11
   have hs_t39 := hb11.size
   have qBa0 : w11.cell? ⟨w1.heap.size, 0, none⟩ = some (.int .i64 za) := by rw [Ba_t39.cell]; rfl
   have qBa1 : w11.cell? ⟨w1.heap.size, 1, none⟩ = some (.slice ada la.length ca) := by rw [Ba_t39.cell]; rfl
   have qBb0 : w11.cell? ⟨w1.heap.size + 1, 0, none⟩ = some (.int .i64 ab) := by rw [Bb_t39.cell]; rfl
   have qBb1 : w11.cell? ⟨w1.heap.size + 1, 1, none⟩ = some (.slice adb lb.length cb) := by rw [Bb_t39.cell]; rfl
   have qBx0 : w11.cell? ⟨w1.heap.size + 1 + 1, 0, none⟩ = some (.string x.k) := by rw [Bx_t39.cell]; rfl
   have qBx1 : w11.cell? ⟨w1.heap.size + 1 + 1, 1, none⟩ = some (.int .i64 x.n) := by rw [Bx_t39.cell]; rfl
   have qBx2 : w11.cell? ⟨w1.heap.size + 1 + 1, 2, none⟩ = some (.bool x.g) := by rw [Bx_t39.cell]; rfl
   have qBy0 : w11.cell? ⟨w2.heap.size, 0, none⟩ = some (.int .i64 ab) := by rw [By_t39.cell]; rfl
   have qBy1 : w11.cell? ⟨w2.heap.size, 1, none⟩ = some (.slice ady RW.length cy) := by rw [By_t39.cell]; rfl
   go_wp2_with fail
   clear qBa0 qBa1 qBb0 qBb1 qBx0 qBx1 qBx2 qBy0 qBy1
   refine (wpO s_t39 t_n (by omega) (by omega)).mono ?_
   rintro e w12 ⟨rfl, hb12⟩
   rw [eqL_yes rfl]
   have a_t41 := a_t39.next hb12
   clear a_t39
   have b_t41 := b_t39.next hb12
   clear b_t39
   have y_t41 := y_t39.next hb12
   clear y_t39
   have r_t41 := r_t39.next hb12
   clear r_t39
   have q_t41 := q_t39.next hb12
   clear q_t39
   have s_t41 := s_t39.next hb12
   clear s_t39
   have t_t41 := t_n.next hb12
   clear t_n
   have Ba_t41 := Ba_t39.next hb12
   clear Ba_t39
   have Bb_t41 := Bb_t39.next hb12
   clear Bb_t39
   have Bx_t41 := Bx_t39.next hb12
   clear Bx_t39
   have By_t41 := By_t39.next hb12
   clear By_t39
   have hw_t41 := below_next hw_t39 hb12
   have hs_t41 := hb12.size
   have qBa0 : w12.cell? ⟨w1.heap.size, 0, none⟩ = some (.int .i64 za) := by rw [Ba_t41.cell]; rfl
   have qBa1 : w12.cell? ⟨w1.heap.size, 1, none⟩ = some (.slice ada la.length ca) := by rw [Ba_t41.cell]; rfl
   have qBb0 : w12.cell? ⟨w1.heap.size + 1, 0, none⟩ = some (.int .i64 ab) := by rw [Bb_t41.cell]; rfl
   have qBb1 : w12.cell? ⟨w1.heap.size + 1, 1, none⟩ = some (.slice adb lb.length cb) := by rw [Bb_t41.cell]; rfl
   have qBx0 : w12.cell? ⟨w1.heap.size + 1 + 1, 0, none⟩ = some (.string x.k) := by rw [Bx_t41.cell]; rfl
   have qBx1 : w12.cell? ⟨w1.heap.size + 1 + 1, 1, none⟩ = some (.int .i64 x.n) := by rw [Bx_t41.cell]; rfl
   have qBx2 : w12.cell? ⟨w1.heap.size + 1 + 1, 2, none⟩ = some (.bool x.g) := by rw [Bx_t41.cell]; rfl
   have qBy0 : w12.cell? ⟨w2.heap.size, 0, none⟩ = some (.int .i64 ab) := by rw [By_t41.cell]; rfl
   have qBy1 : w12.cell? ⟨w2.heap.size, 1, none⟩ = some (.slice ady RW.length cy) := by rw [By_t41.cell]; rfl
   go_wp2_with fail
   clear qBa0 qBa1 qBb0 qBb1 qBx0 qBx1 qBx2 qBy0 qBy1
   refine (implWorkOkO a_t41 y_t41 hfa hfW (by omega) (by omega)).mono ?_
   rintro e w13 ⟨rfl, hb13⟩
   rw [HS.out.2.2.2]
   have a_t43 := a_t41.next hb13
   clear a_t41
   have b_t43 := b_t41.next hb13
   clear b_t41
   have y_t43 := y_t41.next hb13
   clear y_t41
   have r_t43 := r_t41.next hb13
   clear r_t41
   have q_t43 := q_t41.next hb13
   clear q_t41
   have s_t43 := s_t41.next hb13
   clear s_t41
   have t_t43 := t_t41.next hb13
   clear t_t41
   have Ba_t43 := Ba_t41.next hb13
   clear Ba_t41
   have Bb_t43 := Bb_t41.next hb13
   clear Bb_t41
   have Bx_t43 := Bx_t41.next hb13
   clear Bx_t41
   have By_t43 := By_t41.next hb13
   clear By_t41
   have hw_t43 := below_next hw_t41 hb13
   have hs_t43 := hb13.size
   have qBa0 : w13.cell? ⟨w1.heap.size, 0, none⟩ = some (.int .i64 za) := by rw [Ba_t43.cell]; rfl
   have qBa1 : w13.cell? ⟨w1.heap.size, 1, none⟩ = some (.slice ada la.length ca) := by rw [Ba_t43.cell]; rfl
   have qBb0 : w13.cell? ⟨w1.heap.size + 1, 0, none⟩ = some (.int .i64 ab) := by rw [Bb_t43.cell]; rfl
   have qBb1 : w13.cell? ⟨w1.heap.size + 1, 1, none⟩ = some (.slice adb lb.length cb) := by rw [Bb_t43.cell]; rfl
   have qBx0 : w13.cell? ⟨w1.heap.size + 1 + 1, 0, none⟩ = some (.string x.k) := by rw [Bx_t43.cell]; rfl
   have qBx1 : w13.cell? ⟨w1.heap.size + 1 + 1, 1, none⟩ = some (.int .i64 x.n) := by rw [Bx_t43.cell]; rfl
   have qBx2 : w13.cell? ⟨w1.heap.size + 1 + 1, 2, none⟩ = some (.bool x.g) := by rw [Bx_t43.cell]; rfl
   have qBy0 : w13.cell? ⟨w2.heap.size, 0, none⟩ = some (.int .i64 ab) := by rw [By_t43.cell]; rfl
   have qBy1 : w13.cell? ⟨w2.heap.size, 1, none⟩ = some (.slice ady RW.length cy) := by rw [By_t43.cell]; rfl
   go_wp2
   go_ret
   exact ⟨rfl, hw_t43⟩
 ·
  have hn1_RC : (RC == 0) = false := by simp; exact hc
  have hn2_RC : (RC != 0) = true := by simp; exact hc
  rcases put_not (show wputC za la ab lb x ≠ 0 from by rw [HRR.out.2.2]; exact hc) with ⟨hv, e1, e2⟩ | ⟨hv, e1, e2⟩
  ·
   have HSB : Hid (sameW RA ab RW lb = true) := Lib.hid (by rw [← HRR.out.1, ← HRR.out.2.1, e1, e2]; exact sameW_refl ab lb)
   clear e1 e2 HRR hc
   have qBa0 : w6.cell? ⟨w1.heap.size, 0, none⟩ = some (.int .i64 za) := by rw [Ba_t29.cell]; rfl
   have qBa1 : w6.cell? ⟨w1.heap.size, 1, none⟩ = some (.slice ada la.length ca) := by rw [Ba_t29.cell]; rfl
   have qBb0 : w6.cell? ⟨w1.heap.size + 1, 0, none⟩ = some (.int .i64 ab) := by rw [Bb_t29.cell]; rfl
   have qBb1 : w6.cell? ⟨w1.heap.size + 1, 1, none⟩ = some (.slice adb lb.length cb) := by rw [Bb_t29.cell]; rfl
   have qBx0 : w6.cell? ⟨w1.heap.size + 1 + 1, 0, none⟩ = some (.string x.k) := by rw [Bx_t29.cell]; rfl
   have qBx1 : w6.cell? ⟨w1.heap.size + 1 + 1, 1, none⟩ = some (.int .i64 x.n) := by rw [Bx_t29.cell]; rfl
   have qBx2 : w6.cell? ⟨w1.heap.size + 1 + 1, 2, none⟩ = some (.bool x.g) := by rw [Bx_t29.cell]; rfl
   have qBy0 : w6.cell? ⟨w2.heap.size, 0, none⟩ = some (.int .i64 RA) := by rw [By_t29.cell]; rfl
   have qBy1 : w6.cell? ⟨w2.heap.size, 1, none⟩ = some (.slice ady RW.length cy) := by rw [By_t29.cell]; rfl
   go_wp2_with fail
   clear qBa0 qBa1 qBb0 qBb1 qBx0 qBx1 qBx2 qBy0 qBy1
   refine (specWorkOkO a_t29 b_t29 hfa hfb (by omega) (by omega)).mono ?_
   rintro e w7 ⟨rfl, hb7⟩
   rw [hv]
   have a_t31 := a_t29.next hb7
   clear a_t29
   have b_t31 := b_t29.next hb7
   clear b_t29
   have y_t31 := y_t29.next hb7
   clear y_t29
   have Ba_t31 := Ba_t29.next hb7
   clear Ba_t29
   have Bb_t31 := Bb_t29.next hb7
   clear Bb_t29
   have Bx_t31 := Bx_t29.next hb7
   clear Bx_t29
   have By_t31 := By_t29.next hb7
   clear By_t29
   have hw_t31 := below_next hw_t29 hb7
   have hs_t31 := hb7.size
   have qBa0 : w7.cell? ⟨w1.heap.size, 0, none⟩ = some (.int .i64 za) := by rw [Ba_t31.cell]; rfl
   have qBa1 : w7.cell? ⟨w1.heap.size, 1, none⟩ = some (.slice ada la.length ca) := by rw [Ba_t31.cell]; rfl
   have qBb0 : w7.cell? ⟨w1.heap.size + 1, 0, none⟩ = some (.int .i64 ab) := by rw [Bb_t31.cell]; rfl
   have qBb1 : w7.cell? ⟨w1.heap.size + 1, 1, none⟩ = some (.slice adb lb.length cb) := by rw [Bb_t31.cell]; rfl
   have qBx0 : w7.cell? ⟨w1.heap.size + 1 + 1, 0, none⟩ = some (.string x.k) := by rw [Bx_t31.cell]; rfl
   have qBx1 : w7.cell? ⟨w1.heap.size + 1 + 1, 1, none⟩ = some (.int .i64 x.n) := by rw [Bx_t31.cell]; rfl
   have qBx2 : w7.cell? ⟨w1.heap.size + 1 + 1, 2, none⟩ = some (.bool x.g) := by rw [Bx_t31.cell]; rfl
   have qBy0 : w7.cell? ⟨w2.heap.size, 0, none⟩ = some (.int .i64 RA) := by rw [By_t31.cell]; rfl
   have qBy1 : w7.cell? ⟨w2.heap.size, 1, none⟩ = some (.slice ady RW.length cy) := by rw [By_t31.cell]; rfl
   go_wp2_with fail
   clear qBa0 qBa1 qBb0 qBb1 qBx0 qBx1 qBx2 qBy0 qBy1
   refine (implWorkSameO y_t31 b_t31 (by omega) (by omega)).mono ?_
   rintro e w8 ⟨rfl, hb8⟩
   rw [HSB.out]
   have a_t33 := a_t31.next hb8
   clear a_t31
   have b_t33 := b_t31.next hb8
   clear b_t31
   have y_t33 := y_t31.next hb8
   clear y_t31
   have Ba_t33 := Ba_t31.next hb8
   clear Ba_t31
   have Bb_t33 := Bb_t31.next hb8
   clear Bb_t31
   have Bx_t33 := Bx_t31.next hb8
   clear Bx_t31
   have By_t33 := By_t31.next hb8
   clear By_t31
   have hw_t33 := below_next hw_t31 hb8
   have hs_t33 := hb8.size
   have qBa0 : w8.cell? ⟨w1.heap.size, 0, none⟩ = some (.int .i64 za) := by rw [Ba_t33.cell]; rfl
   have qBa1 : w8.cell? ⟨w1.heap.size, 1, none⟩ = some (.slice ada la.length ca) := by rw [Ba_t33.cell]; rfl
   have qBb0 : w8.cell? ⟨w1.heap.size + 1, 0, none⟩ = some (.int .i64 ab) := by rw [Bb_t33.cell]; rfl
   have qBb1 : w8.cell? ⟨w1.heap.size + 1, 1, none⟩ = some (.slice adb lb.length cb) := by rw [Bb_t33.cell]; rfl
   have qBx0 : w8.cell? ⟨w1.heap.size + 1 + 1, 0, none⟩ = some (.string x.k) := by rw [Bx_t33.cell]; rfl
   have qBx1 : w8.cell? ⟨w1.heap.size + 1 + 1, 1, none⟩ = some (.int .i64 x.n) := by rw [Bx_t33.cell]; rfl
   have qBx2 : w8.cell? ⟨w1.heap.size + 1 + 1, 2, none⟩ = some (.bool x.g) := by rw [Bx_t33.cell]; rfl
   have qBy0 : w8.cell? ⟨w2.heap.size, 0, none⟩ = some (.int .i64 RA) := by rw [By_t33.cell]; rfl
   have qBy1 : w8.cell? ⟨w2.heap.size, 1, none⟩ = some (.slice ady RW.length cy) := by rw [By_t33.cell]; rfl
   go_wp2
   go_ret
   exact ⟨rfl, hw_t33⟩
  ·
   have HSB : Hid (sameW RA 0 RW [] = true) := Lib.hid (by rw [← HRR.out.1, ← HRR.out.2.1, e1, e2]; exact sameW_refl 0 [])
   clear e1 e2 HRR hc
   have qBa0 : w6.cell? ⟨w1.heap.size, 0, none⟩ = some (.int .i64 za) := by rw [Ba_t29.cell]; rfl
   have qBa1 : w6.cell? ⟨w1.heap.size, 1, none⟩ = some (.slice ada la.length ca) := by rw [Ba_t29.cell]; rfl
   have qBb0 : w6.cell? ⟨w1.heap.size + 1, 0, none⟩ = some (.int .i64 ab) := by rw [Bb_t29.cell]; rfl
   have qBb1 : w6.cell? ⟨w1.heap.size + 1, 1, none⟩ = some (.slice adb lb.length cb) := by rw [Bb_t29.cell]; rfl
   have qBx0 : w6.cell? ⟨w1.heap.size + 1 + 1, 0, none⟩ = some (.string x.k) := by rw [Bx_t29.cell]; rfl
   have qBx1 : w6.cell? ⟨w1.heap.size + 1 + 1, 1, none⟩ = some (.int .i64 x.n) := by rw [Bx_t29.cell]; rfl
   have qBx2 : w6.cell? ⟨w1.heap.size + 1 + 1, 2, none⟩ = some (.bool x.g) := by rw [Bx_t29.cell]; rfl
   have qBy0 : w6.cell? ⟨w2.heap.size, 0, none⟩ = some (.int .i64 RA) := by rw [By_t29.cell]; rfl
   have qBy1 : w6.cell? ⟨w2.heap.size, 1, none⟩ = some (.slice ady RW.length cy) := by rw [By_t29.cell]; rfl
   go_wp2_with fail
   clear qBa0 qBa1 qBb0 qBb1 qBx0 qBx1 qBx2 qBy0 qBy1
   refine (specWorkOkO a_t29 b_t29 hfa hfb (by omega) (by omega)).mono ?_
   rintro e w7 ⟨rfl, hb7⟩
   rw [hv]
   have a_t31 := a_t29.next hb7
   clear a_t29
   have b_t31 := b_t29.next hb7
   clear b_t29
   have y_t31 := y_t29.next hb7
   clear y_t29
   have Ba_t31 := Ba_t29.next hb7
   clear Ba_t29
   have Bb_t31 := Bb_t29.next hb7
   clear Bb_t29
   have Bx_t31 := Bx_t29.next hb7
   clear Bx_t29
   have By_t31 := By_t29.next hb7
   clear By_t29
   have hw_t31 := below_next hw_t29 hb7
   have hs_t31 := hb7.size
   have qBa0 : w7.cell? ⟨w1.heap.size, 0, none⟩ = some (.int .i64 za) := by rw [Ba_t31.cell]; rfl
   have qBa1 : w7.cell? ⟨w1.heap.size, 1, none⟩ = some (.slice ada la.length ca) := by rw [Ba_t31.cell]; rfl
   have qBb0 : w7.cell? ⟨w1.heap.size + 1, 0, none⟩ = some (.int .i64 ab) := by rw [Bb_t31.cell]; rfl
   have qBb1 : w7.cell? ⟨w1.heap.size + 1, 1, none⟩ = some (.slice adb lb.length cb) := by rw [Bb_t31.cell]; rfl
   have qBx0 : w7.cell? ⟨w1.heap.size + 1 + 1, 0, none⟩ = some (.string x.k) := by rw [Bx_t31.cell]; rfl
   have qBx1 : w7.cell? ⟨w1.heap.size + 1 + 1, 1, none⟩ = some (.int .i64 x.n) := by rw [Bx_t31.cell]; rfl
   have qBx2 : w7.cell? ⟨w1.heap.size + 1 + 1, 2, none⟩ = some (.bool x.g) := by rw [Bx_t31.cell]; rfl
   have qBy0 : w7.cell? ⟨w2.heap.size, 0, none⟩ = some (.int .i64 RA) := by rw [By_t31.cell]; rfl
   have qBy1 : w7.cell? ⟨w2.heap.size, 1, none⟩ = some (.slice ady RW.length cy) := by rw [By_t31.cell]; rfl
   go_wp2_with fail
   clear qBa0 qBa1 qBb0 qBb1 qBx0 qBx1 qBx2 qBy0 qBy1
   refine (specWorkOkO a_t31 b_t31 hfa hfb (by omega) (by omega)).mono ?_
   rintro e w8 ⟨rfl, hb8⟩
   rw [hv]
   have a_t33 := a_t31.next hb8
   clear a_t31
   have b_t33 := b_t31.next hb8
   clear b_t31
   have y_t33 := y_t31.next hb8
   clear y_t31
   have Ba_t33 := Ba_t31.next hb8
   clear Ba_t31
   have Bb_t33 := Bb_t31.next hb8
   clear Bb_t31
   have Bx_t33 := Bx_t31.next hb8
   clear Bx_t31
   have By_t33 := By_t31.next hb8
   clear By_t31
   have hw_t33 := below_next hw_t31 hb8
   have hs_t33 := hb8.size
   have qBa0 : w8.cell? ⟨w1.heap.size, 0, none⟩ = some (.int .i64 za) := by rw [Ba_t33.cell]; rfl
   have qBa1 : w8.cell? ⟨w1.heap.size, 1, none⟩ = some (.slice ada la.length ca) := by rw [Ba_t33.cell]; rfl
   have qBb0 : w8.cell? ⟨w1.heap.size + 1, 0, none⟩ = some (.int .i64 ab) := by rw [Bb_t33.cell]; rfl
   have qBb1 : w8.cell? ⟨w1.heap.size + 1, 1, none⟩ = some (.slice adb lb.length cb) := by rw [Bb_t33.cell]; rfl
   have qBx0 : w8.cell? ⟨w1.heap.size + 1 + 1, 0, none⟩ = some (.string x.k) := by rw [Bx_t33.cell]; rfl
   have qBx1 : w8.cell? ⟨w1.heap.size + 1 + 1, 1, none⟩ = some (.int .i64 x.n) := by rw [Bx_t33.cell]; rfl
   have qBx2 : w8.cell? ⟨w1.heap.size + 1 + 1, 2, none⟩ = some (.bool x.g) := by rw [Bx_t33.cell]; rfl
   have qBy0 : w8.cell? ⟨w2.heap.size, 0, none⟩ = some (.int .i64 RA) := by rw [By_t33.cell]; rfl
   have qBy1 : w8.cell? ⟨w2.heap.size, 1, none⟩ = some (.slice ady RW.length cy) := by rw [By_t33.cell]; rfl
   go_wp2_with fail
   clear qBa0 qBa1 qBb0 qBb1 qBx0 qBx1 qBx2 qBy0 qBy1
   refine (implWorkSameO y_t33 (OwnG.nil (α := X) _ 0) (by omega) (by simp)).mono ?_
   rintro e w9 ⟨rfl, hb9⟩
   rw [HSB.out]
   have a_t35 := a_t33.next hb9
   clear a_t33
   have b_t35 := b_t33.next hb9
   clear b_t33
   have y_t35 := y_t33.next hb9
   clear y_t33
   have Ba_t35 := Ba_t33.next hb9
   clear Ba_t33
   have Bb_t35 := Bb_t33.next hb9
   clear Bb_t33
   have Bx_t35 := Bx_t33.next hb9
   clear Bx_t33
   have By_t35 := By_t33.next hb9
   clear By_t33
   have hw_t35 := below_next hw_t33 hb9
   have hs_t35 := hb9.size
   have qBa0 : w9.cell? ⟨w1.heap.size, 0, none⟩ = some (.int .i64 za) := by rw [Ba_t35.cell]; rfl
   have qBa1 : w9.cell? ⟨w1.heap.size, 1, none⟩ = some (.slice ada la.length ca) := by rw [Ba_t35.cell]; rfl
   have qBb0 : w9.cell? ⟨w1.heap.size + 1, 0, none⟩ = some (.int .i64 ab) := by rw [Bb_t35.cell]; rfl
   have qBb1 : w9.cell? ⟨w1.heap.size + 1, 1, none⟩ = some (.slice adb lb.length cb) := by rw [Bb_t35.cell]; rfl
   have qBx0 : w9.cell? ⟨w1.heap.size + 1 + 1, 0, none⟩ = some (.string x.k) := by rw [Bx_t35.cell]; rfl
   have qBx1 : w9.cell? ⟨w1.heap.size + 1 + 1, 1, none⟩ = some (.int .i64 x.n) := by rw [Bx_t35.cell]; rfl
   have qBx2 : w9.cell? ⟨w1.heap.size + 1 + 1, 2, none⟩ = some (.bool x.g) := by rw [Bx_t35.cell]; rfl
   have qBy0 : w9.cell? ⟨w2.heap.size, 0, none⟩ = some (.int .i64 RA) := by rw [By_t35.cell]; rfl
   have qBy1 : w9.cell? ⟨w2.heap.size, 1, none⟩ = some (.slice ady RW.length cy) := by rw [By_t35.cell]; rfl
   go_wp2
   go_ret
   exact ⟨rfl, hw_t35⟩

set_option maxRecDepth 100000 in
theorem lifted (os : Os) (started : os.Started) (H : Type) (enc : TypeId × Value → H) :
  ReturnsInHanded {} Tryz.checked os 6 .any (Rows.fnWorkPutSpec.pre6 enc Tryz.prog Tryz.f6 Rows.fnWorkPutRow.domain false) (Rows.fnWorkPutSpec.post enc Tryz.prog Tryz.f6 false true false false) := by
 refine returnsInHanded_of_change (C := Tryz.checked) Whole.own started (by kernel_rfl) Tryz.func6
  (ChangeSpec.witness6 (enc := enc) (C := Tryz.checked) false ⟨#[], #[.slice none 0 0], []⟩ 8 (by kernel_rfl) (by kernel_rfl) (by kernel_rfl) (by kernel_rfl)) ?_
 intro W base args ds gs before hval0 hW hcnd _
 have hval : ∀ (j : Nat) t v, Tryz.f6.params[j]? = some t → args[j]? = some v → Value.okWide Tryz.prog W .any base t v := hval0
 have hW' := hW
 obtain ⟨p, q, hA0, hV, rfl, hfz, hnd⟩ := hW
 have hA : DataW.TrodAll enc Tryz.prog W 0 (fun _ => true) true Tryz.f6.params.toList args.toList ds p := hA0
 rw [Tryz.params6] at hA hval
 obtain ⟨v0, vs0, d0, ds0, p0, q0, hargs, rfl, rfl, h0, r0⟩ := trodAll_cons hA
 obtain ⟨rfl, rfl, rfl⟩ := trodAll_nil r0
 obtain rfl : args = #[v0] := by cases args; simp_all
 obtain ⟨rfl, rfl⟩ := trodVars_none hV
 have k0 := h0
 have lt0 : ∀ x ∈ p0, x.block < W.heap.size := by obtain ⟨m, hm⟩ := k0; exact DataW.trod_lt m _ _ _ hm
 obtain ⟨A0, n0, c0, rfl, hc0, hm0, hr0⟩ := openBytes (hval 0 57 v0 rfl rfl) h0
 clear hA0 hval0
 refine (walk A0 n0 c0 W hc0 hm0 hr0).mono fun e W' ⟨he, bel⟩ => ?_
 subst he
 exact ⟨_, rfl, _, _, _, [], _, [], hW', trodAll_mk1 (shut_bool Tryz.underlying4 _), (trodAll_cons_mk (Below.trod Whole.laidOut (by kernel_rfl) (of_decide_eq_true (by kernel_rfl)) k0 bel lt0) trodAll_mk0), rfl, bel.frame _, fun h => by cases h⟩

theorem named : Tryz.prog.funcNamed Rows.fnWorkPutRow.func = some 6 := by kernel_rfl
theorem closed : Whole.lawFacts Tryz.prog 6 Tryz.f6 Rows.fnWorkPutSpec Rows.fnWorkPutRow = true := by kernel_rfl
theorem inst : Tryz.f6.isInstance Tryz.prog Rows.fnWorkPutRow.origin Rows.fnWorkPutRow.targs := of_decide_eq_true (by kernel_rfl)
theorem wrap : Tryz.f6.isWrapper Tryz.prog Rows.fnWorkPutRow.wrapper Rows.fnWorkPutRow.mainSum := by
 unfold Func.isWrapper; first | (rw [if_pos (by decide +kernel)]; kernel_rfl) | (rw [if_neg (by decide +kernel)]; exact ⟨rfl, rfl⟩)
theorem over : Rows.fnWorkPutRow.holds Tryz.pinned (OpenSpec.ofChange Rows.fnWorkPutSpec) :=
 OpenClaim.holds_of_wide 6 Tryz.f6 rfl rfl rfl rfl rfl rfl rfl ⟨rfl, rfl, rfl, rfl, rfl⟩ rfl rfl rfl rfl rfl named Tryz.func6 (Whole.facts_of closed)
  inst wrap (fun os started H enc _ => lifted os started H enc)

theorem proved : Rows.FnWorkPutSaid := over
#print axioms proved
end Go.Proofs.YtbeklnhngjmpiaaGreat.fnWorkPut
