/- The law FnWorkBent: for every code that is drawn from, of a transaction that is not right one sees nothing, and nothing can be put or committed, as in the model: for every input the call returns true, and the argument reads afterwards as before. No conditions. -/
import Derived.Test.YtbeklnhngjmpiaaGreatRows
import Derived.Test.YtbeklnhngjmpiaaGreatWhole
import Derived.Test.YtbeklnhngjmpiaaGreatA1
import Derived.Test.YtbeklnhngjmpiaaGreatA4
import Derived.Test.YtbeklnhngjmpiaaGreatDw3
import Derived.Test.YtbeklnhngjmpiaaGreatW3r
import Derived.Test.YtbeklnhngjmpiaaGreatX3g
import Derived.Test.YtbeklnhngjmpiaaGreatX3h
import Derived.Test.YtbeklnhngjmpiaaGreatX3n
import Derived.Test.YtbeklnhngjmpiaaGreatS2s
import Derived.WalkKit
import Derived.ProofKit
import Derived.OpenShut
import Derived.ShutString
import Derived.ChangeOld
import Derived.Below
namespace Go.Proofs.YtbeklnhngjmpiaaGreat.fnWorkBent
open Go.ChangeShapes Go.WideShapes Go.ChangeAt Go.RowKit
open Go.ChangeMaps (open_string shut_string)
set_option linter.unusedVariables false

set_option maxRecDepth 100000 in
set_option maxHeartbeats 1000000 in
theorem walk (A0 : Option Addr) (n0 c0 : Nat) (w : World) (hc0 : n0 ≤ c0) (hm0 : c0 ≤ maxLen) (hr0 : RdB w w.heap.size A0 n0) :
  Calls Tryz.prog 13 #[.slice A0 n0 c0] w fun e w' => e = .returned (.bool true) ∧ Below w.heap.size w w' := by
 by_cases hn_n0 : (1048576 : Int) < (n0 : Int)
 ·
  go_enter Tryz.func13, Tryz.ntmps13
  go_wp2
  go_ret
  exact ⟨rfl, Below.refl _ _⟩
 go_enter Tryz.func13, Tryz.ntmps13
 go_wp2_with fail
 refine (drawWorkOk A0 n0 c0 w hc0 hm0 hr0).mono ?_
 rintro e w1 ⟨za, Va, la, ab, Vb, lb, rfl, a_n, hfa, hza, hla, b_n, hfb, hab, hlb, hb1⟩
 obtain ⟨ada, ca, rfl, ry1_a, ry2_a, ry3_a⟩ := a_n.read
 clear ry1_a ry2_a ry3_a
 obtain ⟨adb, cb, rfl, ry1_b, ry2_b, ry3_b⟩ := b_n.read
 clear ry1_b ry2_b ry3_b
 have hw_t1 := hb1
 have hs_t1 := hb1.size
 have hb_t3 := below_alloc (Below.refl _ w1) (.cells #[.int .i64 za, .slice ada la.length ca] 34)
 have Ba_t3 := blkA w1 #[.int .i64 za, .slice ada la.length ca] 34
 have hz_t3 : (w1.alloc (.cells #[.int .i64 za, .slice ada la.length ca] 34)).heap.size = w1.heap.size + 1 := World.size_alloc _ _
 have a_t4 := a_n.next hb_t3
 clear a_n
 have b_t4 := b_n.next hb_t3
 clear b_n
 have hw_t4 := below_next hw_t1 hb_t3
 have hs_t4 := hb_t3.size
 have hb_t6 := below_alloc (Below.refl _ (w1.alloc (.cells #[.int .i64 za, .slice ada la.length ca] 34))) (.cells #[.int .i64 ab, .slice adb lb.length cb] 38)
 have Bb_t6 := blkA (w1.alloc (.cells #[.int .i64 za, .slice ada la.length ca] 34)) #[.int .i64 ab, .slice adb lb.length cb] 38
 simp only [World.size_alloc] at Bb_t6
 have hz_t6 : ((w1.alloc (.cells #[.int .i64 za, .slice ada la.length ca] 34)).alloc (.cells #[.int .i64 ab, .slice adb lb.length cb] 38)).heap.size = (w1.alloc (.cells #[.int .i64 za, .slice ada la.length ca] 34)).heap.size + 1 := World.size_alloc _ _
 have a_t7 := a_t4.next hb_t6
 clear a_t4
 have b_t7 := b_t4.next hb_t6
 clear b_t4
 have Ba_t7 := Ba_t3.next hb_t6
 clear Ba_t3
 have hw_t7 := below_next hw_t4 hb_t6
 have hs_t7 := hb_t6.size
 cases hc : workB za la ab lb
 ·
  have qBa0 : ((w1.alloc (.cells #[.int .i64 za, .slice ada la.length ca] 34)).alloc (.cells #[.int .i64 ab, .slice adb lb.length cb] 38)).cell? ⟨w1.heap.size, 0, none⟩ = some (.int .i64 za) := by rw [Ba_t7.cell]; rfl
  have qBa1 : ((w1.alloc (.cells #[.int .i64 za, .slice ada la.length ca] 34)).alloc (.cells #[.int .i64 ab, .slice adb lb.length cb] 38)).cell? ⟨w1.heap.size, 1, none⟩ = some (.slice ada la.length ca) := by rw [Ba_t7.cell]; rfl
  have qBb0 : ((w1.alloc (.cells #[.int .i64 za, .slice ada la.length ca] 34)).alloc (.cells #[.int .i64 ab, .slice adb lb.length cb] 38)).cell? ⟨w1.heap.size + 1, 0, none⟩ = some (.int .i64 ab) := by rw [Bb_t6.cell]; rfl
  have qBb1 : ((w1.alloc (.cells #[.int .i64 za, .slice ada la.length ca] 34)).alloc (.cells #[.int .i64 ab, .slice adb lb.length cb] 38)).cell? ⟨w1.heap.size + 1, 1, none⟩ = some (.slice adb lb.length cb) := by rw [Bb_t6.cell]; rfl
  go_wp2_with fail
  clear qBa0 qBa1 qBb0 qBb1
  refine (implWorkOkO a_t7 b_t7 hfa hfb (by omega) (by omega)).mono ?_
  rintro e w2 ⟨rfl, hb2⟩
  rw [hc]
  have a_t9 := a_t7.next hb2
  clear a_t7
  have b_t9 := b_t7.next hb2
  clear b_t7
  have Ba_t9 := Ba_t7.next hb2
  clear Ba_t7
  have Bb_t9 := Bb_t6.next hb2
  clear Bb_t6
  have hw_t9 := below_next hw_t7 hb2
  have hs_t9 := hb2.size
  have qBa0 : w2.cell? ⟨w1.heap.size, 0, none⟩ = some (.int .i64 za) := by rw [Ba_t9.cell]; rfl
  have qBa1 : w2.cell? ⟨w1.heap.size, 1, none⟩ = some (.slice ada la.length ca) := by rw [Ba_t9.cell]; rfl
  have qBb0 : w2.cell? ⟨w1.heap.size + 1, 0, none⟩ = some (.int .i64 ab) := by rw [Bb_t9.cell]; rfl
  have qBb1 : w2.cell? ⟨w1.heap.size + 1, 1, none⟩ = some (.slice adb lb.length cb) := by rw [Bb_t9.cell]; rfl
  go_wp2_with fail
  clear qBa0 qBa1 qBb0 qBb1
  refine (specWorkOkO a_t9 b_t9 hfa hfb (by omega) (by omega)).mono ?_
  rintro e w3 ⟨rfl, hb3⟩
  rw [hc]
  have a_t11 := a_t9.next hb3
  clear a_t9
  have b_t11 := b_t9.next hb3
  clear b_t9
  have Ba_t11 := Ba_t9.next hb3
  clear Ba_t9
  have Bb_t11 := Bb_t9.next hb3
  clear Bb_t9
  have hw_t11 := below_next hw_t9 hb3
  have hs_t11 := hb3.size
  have HB := Lib.hid (bent_work hc (⟨⟨#[97]⟩, 1, false⟩ : X))
  have hxo : FitX (⟨⟨#[97]⟩, 1, false⟩ : X) := ⟨by decide, by show (-9223372036854775808 : Int) ≤ 1; omega, by show (1 : Int) ≤ 9223372036854775807; omega⟩
  have qBa0 : w3.cell? ⟨w1.heap.size, 0, none⟩ = some (.int .i64 za) := by rw [Ba_t11.cell]; rfl
  have qBa1 : w3.cell? ⟨w1.heap.size, 1, none⟩ = some (.slice ada la.length ca) := by rw [Ba_t11.cell]; rfl
  have qBb0 : w3.cell? ⟨w1.heap.size + 1, 0, none⟩ = some (.int .i64 ab) := by rw [Bb_t11.cell]; rfl
  have qBb1 : w3.cell? ⟨w1.heap.size + 1, 1, none⟩ = some (.slice adb lb.length cb) := by rw [Bb_t11.cell]; rfl
  go_wp2_with fail
  clear qBa0 qBa1 qBb0 qBb1
  refine (implWorkPutO (x := (⟨⟨#[97]⟩, 1, false⟩ : X)) a_t11 b_t11 hfa hfb hxo (by omega) (by omega)).mono ?_
  rw [HB.out.2.1, HB.out.2.2.1, HB.out.1]
  rintro e w4 ⟨Vx, rfl, x_n, hb4⟩
  obtain ⟨bbx, nnx, ccx, rfl⟩ := x_n.slice
  have a_t13 := a_t11.next hb4
  clear a_t11
  have b_t13 := b_t11.next hb4
  clear b_t11
  have Ba_t13 := Ba_t11.next hb4
  clear Ba_t11
  have Bb_t13 := Bb_t11.next hb4
  clear Bb_t11
  have hw_t13 := below_next hw_t11 hb4
  have hs_t13 := hb4.size
  have hb_t15 := below_alloc (Below.refl _ w4) (.cells #[.int .i64 0, .slice bbx nnx ccx] 38)
  have Bx_t15 := blkA w4 #[.int .i64 0, .slice bbx nnx ccx] 38
  have hz_t15 : (w4.alloc (.cells #[.int .i64 0, .slice bbx nnx ccx] 38)).heap.size = w4.heap.size + 1 := World.size_alloc _ _
  have a_t16 := a_t13.next hb_t15
  clear a_t13
  have b_t16 := b_t13.next hb_t15
  clear b_t13
  have x_t16 := x_n.next hb_t15
  clear x_n
  have Ba_t16 := Ba_t13.next hb_t15
  clear Ba_t13
  have Bb_t16 := Bb_t13.next hb_t15
  clear Bb_t13
  have hw_t16 := below_next hw_t13 hb_t15
  have hs_t16 := hb_t15.size
  have qBa0 : (w4.alloc (.cells #[.int .i64 0, .slice bbx nnx ccx] 38)).cell? ⟨w1.heap.size, 0, none⟩ = some (.int .i64 za) := by rw [Ba_t16.cell]; rfl
  have qBa1 : (w4.alloc (.cells #[.int .i64 0, .slice bbx nnx ccx] 38)).cell? ⟨w1.heap.size, 1, none⟩ = some (.slice ada la.length ca) := by rw [Ba_t16.cell]; rfl
  have qBb0 : (w4.alloc (.cells #[.int .i64 0, .slice bbx nnx ccx] 38)).cell? ⟨w1.heap.size + 1, 0, none⟩ = some (.int .i64 ab) := by rw [Bb_t16.cell]; rfl
  have qBb1 : (w4.alloc (.cells #[.int .i64 0, .slice bbx nnx ccx] 38)).cell? ⟨w1.heap.size + 1, 1, none⟩ = some (.slice adb lb.length cb) := by rw [Bb_t16.cell]; rfl
  have qBx0 : (w4.alloc (.cells #[.int .i64 0, .slice bbx nnx ccx] 38)).cell? ⟨w4.heap.size, 0, none⟩ = some (.int .i64 0) := by rw [Bx_t15.cell]; rfl
  have qBx1 : (w4.alloc (.cells #[.int .i64 0, .slice bbx nnx ccx] 38)).cell? ⟨w4.heap.size, 1, none⟩ = some (.slice bbx nnx ccx) := by rw [Bx_t15.cell]; rfl
  go_wp2_with fail
  clear qBa0 qBa1 qBb0 qBb1 qBx0 qBx1
  refine (implWorkEndO a_t16 b_t16 hfa hfb (by omega) (by omega)).mono ?_
  rw [HB.out.2.2.2.2.1, HB.out.2.2.2.2.2.1, HB.out.2.2.2.1]
  rintro e w5 ⟨Vy, rfl, y_n, hb5⟩
  obtain ⟨bby, nny, ccy, rfl⟩ := y_n.slice
  have a_t18 := a_t16.next hb5
  clear a_t16
  have b_t18 := b_t16.next hb5
  clear b_t16
  have x_t18 := x_t16.next hb5
  clear x_t16
  have Ba_t18 := Ba_t16.next hb5
  clear Ba_t16
  have Bb_t18 := Bb_t16.next hb5
  clear Bb_t16
  have Bx_t18 := Bx_t15.next hb5
  clear Bx_t15
  have hw_t18 := below_next hw_t16 hb5
  have hs_t18 := hb5.size
  have hb_t20 := below_alloc (Below.refl _ w5) (.cells #[.int .i64 0, .slice bby nny ccy] 34)
  have By_t20 := blkA w5 #[.int .i64 0, .slice bby nny ccy] 34
  have hz_t20 : (w5.alloc (.cells #[.int .i64 0, .slice bby nny ccy] 34)).heap.size = w5.heap.size + 1 := World.size_alloc _ _
  have a_t21 := a_t18.next hb_t20
  clear a_t18
  have b_t21 := b_t18.next hb_t20
  clear b_t18
  have x_t21 := x_t18.next hb_t20
  clear x_t18
  have y_t21 := y_n.next hb_t20
  clear y_n
  have Ba_t21 := Ba_t18.next hb_t20
  clear Ba_t18
  have Bb_t21 := Bb_t18.next hb_t20
  clear Bb_t18
  have Bx_t21 := Bx_t18.next hb_t20
  clear Bx_t18
  have hw_t21 := below_next hw_t18 hb_t20
  have hs_t21 := hb_t20.size
  have qBa0 : (w5.alloc (.cells #[.int .i64 0, .slice bby nny ccy] 34)).cell? ⟨w1.heap.size, 0, none⟩ = some (.int .i64 za) := by rw [Ba_t21.cell]; rfl
  have qBa1 : (w5.alloc (.cells #[.int .i64 0, .slice bby nny ccy] 34)).cell? ⟨w1.heap.size, 1, none⟩ = some (.slice ada la.length ca) := by rw [Ba_t21.cell]; rfl
  have qBb0 : (w5.alloc (.cells #[.int .i64 0, .slice bby nny ccy] 34)).cell? ⟨w1.heap.size + 1, 0, none⟩ = some (.int .i64 ab) := by rw [Bb_t21.cell]; rfl
  have qBb1 : (w5.alloc (.cells #[.int .i64 0, .slice bby nny ccy] 34)).cell? ⟨w1.heap.size + 1, 1, none⟩ = some (.slice adb lb.length cb) := by rw [Bb_t21.cell]; rfl
  have qBx0 : (w5.alloc (.cells #[.int .i64 0, .slice bby nny ccy] 34)).cell? ⟨w4.heap.size, 0, none⟩ = some (.int .i64 0) := by rw [Bx_t21.cell]; rfl
  have qBx1 : (w5.alloc (.cells #[.int .i64 0, .slice bby nny ccy] 34)).cell? ⟨w4.heap.size, 1, none⟩ = some (.slice bbx nnx ccx) := by rw [Bx_t21.cell]; rfl
  have qBy0 : (w5.alloc (.cells #[.int .i64 0, .slice bby nny ccy] 34)).cell? ⟨w5.heap.size, 0, none⟩ = some (.int .i64 0) := by rw [By_t20.cell]; rfl
  have qBy1 : (w5.alloc (.cells #[.int .i64 0, .slice bby nny ccy] 34)).cell? ⟨w5.heap.size, 1, none⟩ = some (.slice bby nny ccy) := by rw [By_t20.cell]; rfl
  go_wp2_with fail
  clear qBa0 qBa1 qBb0 qBb1 qBx0 qBx1 qBy0 qBy1
  refine (implWorkRowsO a_t21 b_t21 hfa hfb (by omega) (by omega)).mono ?_
  rw [HB.out.2.2.2.2.2.2]
  rintro e w6 ⟨Vr, rfl, r_n, hb6⟩
  obtain ⟨adr, cr, rfl, ry1_r, ry2_r, ry3_r⟩ := r_n.read
  clear ry1_r ry2_r ry3_r
  have a_t23 := a_t21.next hb6
  clear a_t21
  have b_t23 := b_t21.next hb6
  clear b_t21
  have x_t23 := x_t21.next hb6
  clear x_t21
  have y_t23 := y_t21.next hb6
  clear y_t21
  have Ba_t23 := Ba_t21.next hb6
  clear Ba_t21
  have Bb_t23 := Bb_t21.next hb6
  clear Bb_t21
  have Bx_t23 := Bx_t21.next hb6
  clear Bx_t21
  have By_t23 := By_t20.next hb6
  clear By_t20
  have hw_t23 := below_next hw_t21 hb6
  have hs_t23 := hb6.size
  clear r_n
  have qBa0 : w6.cell? ⟨w1.heap.size, 0, none⟩ = some (.int .i64 za) := by rw [Ba_t23.cell]; rfl
  have qBa1 : w6.cell? ⟨w1.heap.size, 1, none⟩ = some (.slice ada la.length ca) := by rw [Ba_t23.cell]; rfl
  have qBb0 : w6.cell? ⟨w1.heap.size + 1, 0, none⟩ = some (.int .i64 ab) := by rw [Bb_t23.cell]; rfl
  have qBb1 : w6.cell? ⟨w1.heap.size + 1, 1, none⟩ = some (.slice adb lb.length cb) := by rw [Bb_t23.cell]; rfl
  have qBx0 : w6.cell? ⟨w4.heap.size, 0, none⟩ = some (.int .i64 0) := by rw [Bx_t23.cell]; rfl
  have qBx1 : w6.cell? ⟨w4.heap.size, 1, none⟩ = some (.slice bbx nnx ccx) := by rw [Bx_t23.cell]; rfl
  have qBy0 : w6.cell? ⟨w5.heap.size, 0, none⟩ = some (.int .i64 0) := by rw [By_t23.cell]; rfl
  have qBy1 : w6.cell? ⟨w5.heap.size, 1, none⟩ = some (.slice bby nny ccy) := by rw [By_t23.cell]; rfl
  go_wp2_with fail
  clear qBa0 qBa1 qBb0 qBb1 qBx0 qBx1 qBy0 qBy1
  refine (implWorkSameO x_t23 (OwnG.nil (α := X) _ 0) (by simp) (by simp)).mono ?_
  rintro e w7 ⟨rfl, hb7⟩
  rw [sameW_refl]
  have a_t25 := a_t23.next hb7
  clear a_t23
  have b_t25 := b_t23.next hb7
  clear b_t23
  have x_t25 := x_t23.next hb7
  clear x_t23
  have y_t25 := y_t23.next hb7
  clear y_t23
  have Ba_t25 := Ba_t23.next hb7
  clear Ba_t23
  have Bb_t25 := Bb_t23.next hb7
  clear Bb_t23
  have Bx_t25 := Bx_t23.next hb7
  clear Bx_t23
  have By_t25 := By_t23.next hb7
  clear By_t23
  have hw_t25 := below_next hw_t23 hb7
  have hs_t25 := hb7.size
  have qBa0 : w7.cell? ⟨w1.heap.size, 0, none⟩ = some (.int .i64 za) := by rw [Ba_t25.cell]; rfl
  have qBa1 : w7.cell? ⟨w1.heap.size, 1, none⟩ = some (.slice ada la.length ca) := by rw [Ba_t25.cell]; rfl
  have qBb0 : w7.cell? ⟨w1.heap.size + 1, 0, none⟩ = some (.int .i64 ab) := by rw [Bb_t25.cell]; rfl
  have qBb1 : w7.cell? ⟨w1.heap.size + 1, 1, none⟩ = some (.slice adb lb.length cb) := by rw [Bb_t25.cell]; rfl
  have qBx0 : w7.cell? ⟨w4.heap.size, 0, none⟩ = some (.int .i64 0) := by rw [Bx_t25.cell]; rfl
  have qBx1 : w7.cell? ⟨w4.heap.size, 1, none⟩ = some (.slice bbx nnx ccx) := by rw [Bx_t25.cell]; rfl
  have qBy0 : w7.cell? ⟨w5.heap.size, 0, none⟩ = some (.int .i64 0) := by rw [By_t25.cell]; rfl
  have qBy1 : w7.cell? ⟨w5.heap.size, 1, none⟩ = some (.slice bby nny ccy) := by rw [By_t25.cell]; rfl
  go_wp2_with fail
  clear qBa0 qBa1 qBb0 qBb1 qBx0 qBx1 qBy0 qBy1
  refine (implSameO y_t25 (OwnG.nil (α := V) _ 0) (by simp) (by simp)).mono ?_
  rintro e w8 ⟨rfl, hb8⟩
  rw [sameB_refl]
  have a_t27 := a_t25.next hb8
  clear a_t25
  have b_t27 := b_t25.next hb8
  clear b_t25
  have x_t27 := x_t25.next hb8
  clear x_t25
  have y_t27 := y_t25.next hb8
  clear y_t25
  have Ba_t27 := Ba_t25.next hb8
  clear Ba_t25
  have Bb_t27 := Bb_t25.next hb8
  clear Bb_t25
  have Bx_t27 := Bx_t25.next hb8
  clear Bx_t25
  have By_t27 := By_t25.next hb8
  clear By_t25
  have hw_t27 := below_next hw_t25 hb8
  have hs_t27 := hb8.size
  have qBa0 : w8.cell? ⟨w1.heap.size, 0, none⟩ = some (.int .i64 za) := by rw [Ba_t27.cell]; rfl
  have qBa1 : w8.cell? ⟨w1.heap.size, 1, none⟩ = some (.slice ada la.length ca) := by rw [Ba_t27.cell]; rfl
  have qBb0 : w8.cell? ⟨w1.heap.size + 1, 0, none⟩ = some (.int .i64 ab) := by rw [Bb_t27.cell]; rfl
  have qBb1 : w8.cell? ⟨w1.heap.size + 1, 1, none⟩ = some (.slice adb lb.length cb) := by rw [Bb_t27.cell]; rfl
  have qBx0 : w8.cell? ⟨w4.heap.size, 0, none⟩ = some (.int .i64 0) := by rw [Bx_t27.cell]; rfl
  have qBx1 : w8.cell? ⟨w4.heap.size, 1, none⟩ = some (.slice bbx nnx ccx) := by rw [Bx_t27.cell]; rfl
  have qBy0 : w8.cell? ⟨w5.heap.size, 0, none⟩ = some (.int .i64 0) := by rw [By_t27.cell]; rfl
  have qBy1 : w8.cell? ⟨w5.heap.size, 1, none⟩ = some (.slice bby nny ccy) := by rw [By_t27.cell]; rfl
  go_wp2
  go_ret
  exact ⟨rfl, hw_t27⟩
 ·
  have qBa0 : ((w1.alloc (.cells #[.int .i64 za, .slice ada la.length ca] 34)).alloc (.cells #[.int .i64 ab, .slice adb lb.length cb] 38)).cell? ⟨w1.heap.size, 0, none⟩ = some (.int .i64 za) := by rw [Ba_t7.cell]; rfl
  have qBa1 : ((w1.alloc (.cells #[.int .i64 za, .slice ada la.length ca] 34)).alloc (.cells #[.int .i64 ab, .slice adb lb.length cb] 38)).cell? ⟨w1.heap.size, 1, none⟩ = some (.slice ada la.length ca) := by rw [Ba_t7.cell]; rfl
  have qBb0 : ((w1.alloc (.cells #[.int .i64 za, .slice ada la.length ca] 34)).alloc (.cells #[.int .i64 ab, .slice adb lb.length cb] 38)).cell? ⟨w1.heap.size + 1, 0, none⟩ = some (.int .i64 ab) := by rw [Bb_t6.cell]; rfl
  have qBb1 : ((w1.alloc (.cells #[.int .i64 za, .slice ada la.length ca] 34)).alloc (.cells #[.int .i64 ab, .slice adb lb.length cb] 38)).cell? ⟨w1.heap.size + 1, 1, none⟩ = some (.slice adb lb.length cb) := by rw [Bb_t6.cell]; rfl
  go_wp2_with fail
  clear qBa0 qBa1 qBb0 qBb1
  refine (implWorkOkO a_t7 b_t7 hfa hfb (by omega) (by omega)).mono ?_
  rintro e w2 ⟨rfl, hb2⟩
  rw [hc]
  have a_t9 := a_t7.next hb2
  clear a_t7
  have b_t9 := b_t7.next hb2
  clear b_t7
  have Ba_t9 := Ba_t7.next hb2
  clear Ba_t7
  have Bb_t9 := Bb_t6.next hb2
  clear Bb_t6
  have hw_t9 := below_next hw_t7 hb2
  have hs_t9 := hb2.size
  have qBa0 : w2.cell? ⟨w1.heap.size, 0, none⟩ = some (.int .i64 za) := by rw [Ba_t9.cell]; rfl
  have qBa1 : w2.cell? ⟨w1.heap.size, 1, none⟩ = some (.slice ada la.length ca) := by rw [Ba_t9.cell]; rfl
  have qBb0 : w2.cell? ⟨w1.heap.size + 1, 0, none⟩ = some (.int .i64 ab) := by rw [Bb_t9.cell]; rfl
  have qBb1 : w2.cell? ⟨w1.heap.size + 1, 1, none⟩ = some (.slice adb lb.length cb) := by rw [Bb_t9.cell]; rfl
  go_wp2_with fail
  clear qBa0 qBa1 qBb0 qBb1
  refine (specWorkOkO a_t9 b_t9 hfa hfb (by omega) (by omega)).mono ?_
  rintro e w3 ⟨rfl, hb3⟩
  rw [hc]
  have a_t11 := a_t9.next hb3
  clear a_t9
  have b_t11 := b_t9.next hb3
  clear b_t9
  have Ba_t11 := Ba_t9.next hb3
  clear Ba_t9
  have Bb_t11 := Bb_t9.next hb3
  clear Bb_t9
  have hw_t11 := below_next hw_t9 hb3
  have hs_t11 := hb3.size
  have qBa0 : w3.cell? ⟨w1.heap.size, 0, none⟩ = some (.int .i64 za) := by rw [Ba_t11.cell]; rfl
  have qBa1 : w3.cell? ⟨w1.heap.size, 1, none⟩ = some (.slice ada la.length ca) := by rw [Ba_t11.cell]; rfl
  have qBb0 : w3.cell? ⟨w1.heap.size + 1, 0, none⟩ = some (.int .i64 ab) := by rw [Bb_t11.cell]; rfl
  have qBb1 : w3.cell? ⟨w1.heap.size + 1, 1, none⟩ = some (.slice adb lb.length cb) := by rw [Bb_t11.cell]; rfl
  go_wp2_with fail
  clear qBa0 qBa1 qBb0 qBb1
  refine (specWorkOkO a_t11 b_t11 hfa hfb (by omega) (by omega)).mono ?_
  rintro e w4 ⟨rfl, hb4⟩
  rw [hc]
  have a_t13 := a_t11.next hb4
  clear a_t11
  have b_t13 := b_t11.next hb4
  clear b_t11
  have Ba_t13 := Ba_t11.next hb4
  clear Ba_t11
  have Bb_t13 := Bb_t11.next hb4
  clear Bb_t11
  have hw_t13 := below_next hw_t11 hb4
  have hs_t13 := hb4.size
  have qBa0 : w4.cell? ⟨w1.heap.size, 0, none⟩ = some (.int .i64 za) := by rw [Ba_t13.cell]; rfl
  have qBa1 : w4.cell? ⟨w1.heap.size, 1, none⟩ = some (.slice ada la.length ca) := by rw [Ba_t13.cell]; rfl
  have qBb0 : w4.cell? ⟨w1.heap.size + 1, 0, none⟩ = some (.int .i64 ab) := by rw [Bb_t13.cell]; rfl
  have qBb1 : w4.cell? ⟨w1.heap.size + 1, 1, none⟩ = some (.slice adb lb.length cb) := by rw [Bb_t13.cell]; rfl
  go_wp2
  go_ret
  exact ⟨rfl, hw_t13⟩

set_option maxRecDepth 100000 in
theorem lifted (os : Os) (started : os.Started) (H : Type) (enc : TypeId × Value → H) :
  ReturnsInHanded {} Tryz.checked os 13 .any (Rows.fnWorkBentSpec.pre6 enc Tryz.prog Tryz.f13 Rows.fnWorkBentRow.domain false) (Rows.fnWorkBentSpec.post enc Tryz.prog Tryz.f13 false true false false) := by
 refine returnsInHanded_of_change (C := Tryz.checked) Whole.own started (by kernel_rfl) Tryz.func13
  (ChangeSpec.witness6 (enc := enc) (C := Tryz.checked) false ⟨#[], #[.slice none 0 0], []⟩ 8 (by kernel_rfl) (by kernel_rfl) (by kernel_rfl) (by kernel_rfl)) ?_
 intro W base args ds gs before hval0 hW hcnd _
 have hval : ∀ (j : Nat) t v, Tryz.f13.params[j]? = some t → args[j]? = some v → Value.okWide Tryz.prog W .any base t v := hval0
 have hW' := hW
 obtain ⟨p, q, hA0, hV, rfl, hfz, hnd⟩ := hW
 have hA : DataW.TrodAll enc Tryz.prog W 0 (fun _ => true) true Tryz.f13.params.toList args.toList ds p := hA0
 rw [Tryz.params13] at hA hval
 obtain ⟨v0, vs0, d0, ds0, p0, q0, hargs, rfl, rfl, h0, r0⟩ := trodAll_cons hA
 obtain ⟨rfl, rfl, rfl⟩ := trodAll_nil r0
 obtain rfl : args = #[v0] := by cases args; simp_all
 obtain ⟨rfl, rfl⟩ := trodVars_none hV
 have k0 := h0
 have lt0 : ∀ x ∈ p0, x.block < W.heap.size := by obtain ⟨m, hm⟩ := k0; exact DataW.trod_lt m _ _ _ hm
 obtain ⟨A0, n0, c0, rfl, hc0, hm0, hr0⟩ := openBytes (hval 0 57 v0 rfl rfl) h0
 clear hA0 hval0
 refine (walk A0 n0 c0 W hc0 hm0 hr0).mono fun e W' ⟨he, bel⟩ => ?_
 subst he
 exact ⟨_, rfl, _, _, _, [], _, [], hW', trodAll_mk1 (shut_bool Tryz.underlying4 _), (trodAll_cons_mk (Below.trod Whole.laidOut (by kernel_rfl) (of_decide_eq_true (by kernel_rfl)) k0 bel lt0) trodAll_mk0), rfl, bel.frame _, fun h => by cases h⟩

theorem named : Tryz.prog.funcNamed Rows.fnWorkBentRow.func = some 13 := by kernel_rfl
theorem closed : Whole.lawFacts Tryz.prog 13 Tryz.f13 Rows.fnWorkBentSpec Rows.fnWorkBentRow = true := by kernel_rfl
theorem inst : Tryz.f13.isInstance Tryz.prog Rows.fnWorkBentRow.origin Rows.fnWorkBentRow.targs := of_decide_eq_true (by kernel_rfl)
theorem wrap : Tryz.f13.isWrapper Tryz.prog Rows.fnWorkBentRow.wrapper Rows.fnWorkBentRow.mainSum := by
 unfold Func.isWrapper; first | (rw [if_pos (by decide +kernel)]; kernel_rfl) | (rw [if_neg (by decide +kernel)]; exact ⟨rfl, rfl⟩)
theorem over : Rows.fnWorkBentRow.holds Tryz.pinned (OpenSpec.ofChange Rows.fnWorkBentSpec) :=
 OpenClaim.holds_of_wide 13 Tryz.f13 rfl rfl rfl rfl rfl rfl rfl ⟨rfl, rfl, rfl, rfl, rfl⟩ rfl rfl rfl rfl rfl named Tryz.func13 (Whole.facts_of closed)
  inst wrap (fun os started H enc _ => lifted os started H enc)

theorem proved : Rows.FnWorkBentSaid := over
#print axioms proved
end Go.Proofs.YtbeklnhngjmpiaaGreat.fnWorkBent
