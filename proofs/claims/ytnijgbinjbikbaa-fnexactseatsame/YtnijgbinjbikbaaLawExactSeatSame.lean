/- For all pairs of seats of the law's own types that the law takes (a bounded size), SeatSame of the program answers as the specification's SeatSame, and leaves its arguments as they were. No conditions. -/
import Derived.Test.YtnijgbinjbikbaaRows
import Derived.Test.YtnijgbinjbikbaaWhole
import Derived.Test.YtnijgbinjbikbaaA6
import Derived.Test.YtnijgbinjbikbaaArSeat
import Derived.Test.YtnijgbinjbikbaaX4b
import Derived.WalkKit
import Derived.ProofKit
import Derived.OpenShut
import Derived.ShutString
import Derived.ChangeOld
import Derived.Below
namespace Go.Proofs.Ytnijgbinjbikbaa.fnExactSeatSame
open Go.ChangeShapes Go.WideShapes Go.ChangeAt Go.RowKit
open Go.ChangeMaps (open_string shut_string)
set_option linter.unusedVariables false

set_option maxRecDepth 100000 in
set_option maxHeartbeats 1000000 in
theorem walk (o0 p0 : Bool) (z0 : Int) (A0 : Option Addr) (c0 : Nat) (l0 : List X) (o1 p1 : Bool) (z1 : Int) (A1 : Option Addr) (c1 : Nat) (l1 : List X) (w : World) (hz0 : FitI z0) (hc0 : l0.length ≤ c0) (hm0 : c0 ≤ maxLen) (hf0 : FitXs l0) (hr0 : RdG w w.heap.size A0 l0) (hz1 : FitI z1) (hc1 : l1.length ≤ c1) (hm1 : c1 ≤ maxLen) (hf1 : FitXs l1) (hr1 : RdG w w.heap.size A1 l1) :
  Calls Try.prog 3 #[.agg #[.bool o0, .bool p0, .int .i64 z0, .slice A0 l0.length c0], .agg #[.bool o1, .bool p1, .int .i64 z1, .slice A1 l1.length c1]] w fun e w' => e = .returned (.bool true) ∧ Below w.heap.size w w' := by
 have htl0 := totalX_len l0
 by_cases ht0 : (totalX l0 : Int) ≤ 1048576
 rotate_left
 ·
  have H0 := Lib.hid (szR_neg (left := 1048576) (k := totalX l0) (by omega))
  go_enter Try.func3, Try.ntmps3
  have hb_t1 := below_alloc (Below.refl _ w) (.cells #[.bool o0, .bool p0, .int .i64 z0, .slice A0 l0.length c0] 26)
  have B0_t1 := blkA w #[.bool o0, .bool p0, .int .i64 z0, .slice A0 l0.length c0] 26
  have hz_t1 : (w.alloc (.cells #[.bool o0, .bool p0, .int .i64 z0, .slice A0 l0.length c0] 26)).heap.size = w.heap.size + 1 := World.size_alloc _ _
  have hw_t2 := hb_t1
  have hs_t2 := hb_t1.size
  have hb_t3 := below_alloc (Below.refl _ (w.alloc (.cells #[.bool o0, .bool p0, .int .i64 z0, .slice A0 l0.length c0] 26))) (.cells #[.bool o1, .bool p1, .int .i64 z1, .slice A1 l1.length c1] 26)
  have B1_t3 := blkA (w.alloc (.cells #[.bool o0, .bool p0, .int .i64 z0, .slice A0 l0.length c0] 26)) #[.bool o1, .bool p1, .int .i64 z1, .slice A1 l1.length c1] 26
  simp only [World.size_alloc] at B1_t3
  have hz_t3 : ((w.alloc (.cells #[.bool o0, .bool p0, .int .i64 z0, .slice A0 l0.length c0] 26)).alloc (.cells #[.bool o1, .bool p1, .int .i64 z1, .slice A1 l1.length c1] 26)).heap.size = (w.alloc (.cells #[.bool o0, .bool p0, .int .i64 z0, .slice A0 l0.length c0] 26)).heap.size + 1 := World.size_alloc _ _
  have B0_t4 := B0_t1.next hb_t3
  clear B0_t1
  have hw_t4 := below_next hw_t2 hb_t3
  have hs_t4 := hb_t3.size
  have qB00 : ((w.alloc (.cells #[.bool o0, .bool p0, .int .i64 z0, .slice A0 l0.length c0] 26)).alloc (.cells #[.bool o1, .bool p1, .int .i64 z1, .slice A1 l1.length c1] 26)).cell? ⟨w.heap.size, 0, none⟩ = some (.bool o0) := by rw [B0_t4.cell]; rfl
  have qB01 : ((w.alloc (.cells #[.bool o0, .bool p0, .int .i64 z0, .slice A0 l0.length c0] 26)).alloc (.cells #[.bool o1, .bool p1, .int .i64 z1, .slice A1 l1.length c1] 26)).cell? ⟨w.heap.size, 1, none⟩ = some (.bool p0) := by rw [B0_t4.cell]; rfl
  have qB02 : ((w.alloc (.cells #[.bool o0, .bool p0, .int .i64 z0, .slice A0 l0.length c0] 26)).alloc (.cells #[.bool o1, .bool p1, .int .i64 z1, .slice A1 l1.length c1] 26)).cell? ⟨w.heap.size, 2, none⟩ = some (.int .i64 z0) := by rw [B0_t4.cell]; rfl
  have qB03 : ((w.alloc (.cells #[.bool o0, .bool p0, .int .i64 z0, .slice A0 l0.length c0] 26)).alloc (.cells #[.bool o1, .bool p1, .int .i64 z1, .slice A1 l1.length c1] 26)).cell? ⟨w.heap.size, 3, none⟩ = some (.slice A0 l0.length c0) := by rw [B0_t4.cell]; rfl
  have qB10 : ((w.alloc (.cells #[.bool o0, .bool p0, .int .i64 z0, .slice A0 l0.length c0] 26)).alloc (.cells #[.bool o1, .bool p1, .int .i64 z1, .slice A1 l1.length c1] 26)).cell? ⟨w.heap.size + 1, 0, none⟩ = some (.bool o1) := by rw [B1_t3.cell]; rfl
  have qB11 : ((w.alloc (.cells #[.bool o0, .bool p0, .int .i64 z0, .slice A0 l0.length c0] 26)).alloc (.cells #[.bool o1, .bool p1, .int .i64 z1, .slice A1 l1.length c1] 26)).cell? ⟨w.heap.size + 1, 1, none⟩ = some (.bool p1) := by rw [B1_t3.cell]; rfl
  have qB12 : ((w.alloc (.cells #[.bool o0, .bool p0, .int .i64 z0, .slice A0 l0.length c0] 26)).alloc (.cells #[.bool o1, .bool p1, .int .i64 z1, .slice A1 l1.length c1] 26)).cell? ⟨w.heap.size + 1, 2, none⟩ = some (.int .i64 z1) := by rw [B1_t3.cell]; rfl
  have qB13 : ((w.alloc (.cells #[.bool o0, .bool p0, .int .i64 z0, .slice A0 l0.length c0] 26)).alloc (.cells #[.bool o1, .bool p1, .int .i64 z1, .slice A1 l1.length c1] 26)).cell? ⟨w.heap.size + 1, 3, none⟩ = some (.slice A1 l1.length c1) := by rw [B1_t3.cell]; rfl
  go_wp2_with fail
  clear qB00 qB01 qB02 qB03 qB10 qB11 qB12 qB13
  refine (szSeat_c o0 p0 z0 A0 c0 l0 1048576 _ hf0 hc0 hm0 (by omega) (by omega) ((hr0.below hw_t4).more hw_t4.size)).mono ?_
  rintro e w1 ⟨rfl, hb1⟩
  rw [H0.out]
  have B0_t5 := B0_t4.next hb1
  clear B0_t4
  have B1_t5 := B1_t3.next hb1
  clear B1_t3
  have hw_t5 := below_next hw_t4 hb1
  have hs_t5 := hb1.size
  go_wp2
  go_ret
  exact ⟨rfl, hw_t5⟩
 obtain ⟨L0, H0, hL0, hL0x⟩ : ∃ L : Int, Hid (szR 1048576 (totalX l0) = L) ∧ 0 ≤ L ∧ L ≤ 1048576 := ⟨_, Lib.hid rfl, by rw [szR_pos ht0]; omega, by rw [szR_pos ht0]; omega⟩
 have hlen0 : l0.length ≤ 1048576 := by omega
 clear ht0 htl0
 have htl1 := totalX_len l1
 by_cases ht1 : (totalX l1 : Int) ≤ L0
 rotate_left
 ·
  have H1 := Lib.hid (szR_neg (left := L0) (k := totalX l1) (by omega))
  go_enter Try.func3, Try.ntmps3
  have hb_t1 := below_alloc (Below.refl _ w) (.cells #[.bool o0, .bool p0, .int .i64 z0, .slice A0 l0.length c0] 26)
  have B0_t1 := blkA w #[.bool o0, .bool p0, .int .i64 z0, .slice A0 l0.length c0] 26
  have hz_t1 : (w.alloc (.cells #[.bool o0, .bool p0, .int .i64 z0, .slice A0 l0.length c0] 26)).heap.size = w.heap.size + 1 := World.size_alloc _ _
  have hw_t2 := hb_t1
  have hs_t2 := hb_t1.size
  have hb_t3 := below_alloc (Below.refl _ (w.alloc (.cells #[.bool o0, .bool p0, .int .i64 z0, .slice A0 l0.length c0] 26))) (.cells #[.bool o1, .bool p1, .int .i64 z1, .slice A1 l1.length c1] 26)
  have B1_t3 := blkA (w.alloc (.cells #[.bool o0, .bool p0, .int .i64 z0, .slice A0 l0.length c0] 26)) #[.bool o1, .bool p1, .int .i64 z1, .slice A1 l1.length c1] 26
  simp only [World.size_alloc] at B1_t3
  have hz_t3 : ((w.alloc (.cells #[.bool o0, .bool p0, .int .i64 z0, .slice A0 l0.length c0] 26)).alloc (.cells #[.bool o1, .bool p1, .int .i64 z1, .slice A1 l1.length c1] 26)).heap.size = (w.alloc (.cells #[.bool o0, .bool p0, .int .i64 z0, .slice A0 l0.length c0] 26)).heap.size + 1 := World.size_alloc _ _
  have B0_t4 := B0_t1.next hb_t3
  clear B0_t1
  have hw_t4 := below_next hw_t2 hb_t3
  have hs_t4 := hb_t3.size
  have qB00 : ((w.alloc (.cells #[.bool o0, .bool p0, .int .i64 z0, .slice A0 l0.length c0] 26)).alloc (.cells #[.bool o1, .bool p1, .int .i64 z1, .slice A1 l1.length c1] 26)).cell? ⟨w.heap.size, 0, none⟩ = some (.bool o0) := by rw [B0_t4.cell]; rfl
  have qB01 : ((w.alloc (.cells #[.bool o0, .bool p0, .int .i64 z0, .slice A0 l0.length c0] 26)).alloc (.cells #[.bool o1, .bool p1, .int .i64 z1, .slice A1 l1.length c1] 26)).cell? ⟨w.heap.size, 1, none⟩ = some (.bool p0) := by rw [B0_t4.cell]; rfl
  have qB02 : ((w.alloc (.cells #[.bool o0, .bool p0, .int .i64 z0, .slice A0 l0.length c0] 26)).alloc (.cells #[.bool o1, .bool p1, .int .i64 z1, .slice A1 l1.length c1] 26)).cell? ⟨w.heap.size, 2, none⟩ = some (.int .i64 z0) := by rw [B0_t4.cell]; rfl
  have qB03 : ((w.alloc (.cells #[.bool o0, .bool p0, .int .i64 z0, .slice A0 l0.length c0] 26)).alloc (.cells #[.bool o1, .bool p1, .int .i64 z1, .slice A1 l1.length c1] 26)).cell? ⟨w.heap.size, 3, none⟩ = some (.slice A0 l0.length c0) := by rw [B0_t4.cell]; rfl
  have qB10 : ((w.alloc (.cells #[.bool o0, .bool p0, .int .i64 z0, .slice A0 l0.length c0] 26)).alloc (.cells #[.bool o1, .bool p1, .int .i64 z1, .slice A1 l1.length c1] 26)).cell? ⟨w.heap.size + 1, 0, none⟩ = some (.bool o1) := by rw [B1_t3.cell]; rfl
  have qB11 : ((w.alloc (.cells #[.bool o0, .bool p0, .int .i64 z0, .slice A0 l0.length c0] 26)).alloc (.cells #[.bool o1, .bool p1, .int .i64 z1, .slice A1 l1.length c1] 26)).cell? ⟨w.heap.size + 1, 1, none⟩ = some (.bool p1) := by rw [B1_t3.cell]; rfl
  have qB12 : ((w.alloc (.cells #[.bool o0, .bool p0, .int .i64 z0, .slice A0 l0.length c0] 26)).alloc (.cells #[.bool o1, .bool p1, .int .i64 z1, .slice A1 l1.length c1] 26)).cell? ⟨w.heap.size + 1, 2, none⟩ = some (.int .i64 z1) := by rw [B1_t3.cell]; rfl
  have qB13 : ((w.alloc (.cells #[.bool o0, .bool p0, .int .i64 z0, .slice A0 l0.length c0] 26)).alloc (.cells #[.bool o1, .bool p1, .int .i64 z1, .slice A1 l1.length c1] 26)).cell? ⟨w.heap.size + 1, 3, none⟩ = some (.slice A1 l1.length c1) := by rw [B1_t3.cell]; rfl
  go_wp2_with fail
  clear qB00 qB01 qB02 qB03 qB10 qB11 qB12 qB13
  refine (szSeat_c o0 p0 z0 A0 c0 l0 1048576 _ hf0 hc0 hm0 (by omega) (by omega) ((hr0.below hw_t4).more hw_t4.size)).mono ?_
  rintro e w1 ⟨rfl, hb1⟩
  rw [H0.out]
  have B0_t5 := B0_t4.next hb1
  clear B0_t4
  have B1_t5 := B1_t3.next hb1
  clear B1_t3
  have hw_t5 := below_next hw_t4 hb1
  have hs_t5 := hb1.size
  have qB00 : w1.cell? ⟨w.heap.size, 0, none⟩ = some (.bool o0) := by rw [B0_t5.cell]; rfl
  have qB01 : w1.cell? ⟨w.heap.size, 1, none⟩ = some (.bool p0) := by rw [B0_t5.cell]; rfl
  have qB02 : w1.cell? ⟨w.heap.size, 2, none⟩ = some (.int .i64 z0) := by rw [B0_t5.cell]; rfl
  have qB03 : w1.cell? ⟨w.heap.size, 3, none⟩ = some (.slice A0 l0.length c0) := by rw [B0_t5.cell]; rfl
  have qB10 : w1.cell? ⟨w.heap.size + 1, 0, none⟩ = some (.bool o1) := by rw [B1_t5.cell]; rfl
  have qB11 : w1.cell? ⟨w.heap.size + 1, 1, none⟩ = some (.bool p1) := by rw [B1_t5.cell]; rfl
  have qB12 : w1.cell? ⟨w.heap.size + 1, 2, none⟩ = some (.int .i64 z1) := by rw [B1_t5.cell]; rfl
  have qB13 : w1.cell? ⟨w.heap.size + 1, 3, none⟩ = some (.slice A1 l1.length c1) := by rw [B1_t5.cell]; rfl
  go_wp2_with fail
  clear qB00 qB01 qB02 qB03 qB10 qB11 qB12 qB13
  refine (szSeat_c o1 p1 z1 A1 c1 l1 L0 _ hf1 hc1 hm1 (by omega) (by omega) ((hr1.below hw_t5).more hw_t5.size)).mono ?_
  rintro e w2 ⟨rfl, hb2⟩
  rw [H1.out]
  have B0_t6 := B0_t5.next hb2
  clear B0_t5
  have B1_t6 := B1_t5.next hb2
  clear B1_t5
  have hw_t6 := below_next hw_t5 hb2
  have hs_t6 := hb2.size
  go_wp2
  go_ret
  exact ⟨rfl, hw_t6⟩
 obtain ⟨L1, H1, hL1, hL1x⟩ : ∃ L : Int, Hid (szR L0 (totalX l1) = L) ∧ 0 ≤ L ∧ L ≤ 1048576 := ⟨_, Lib.hid rfl, by rw [szR_pos ht1]; omega, by rw [szR_pos ht1]; omega⟩
 have hlen1 : l1.length ≤ 1048576 := by omega
 clear ht1 htl1
 obtain ⟨vb0, HV0⟩ : ∃ x, Hid (sameS ⟨o0, p0, z0, l0⟩ ⟨o1, p1, z1, l1⟩ = x) := ⟨_, Lib.hid rfl⟩
 go_enter Try.func3, Try.ntmps3
 have hb_t1 := below_alloc (Below.refl _ w) (.cells #[.bool o0, .bool p0, .int .i64 z0, .slice A0 l0.length c0] 26)
 have B0_t1 := blkA w #[.bool o0, .bool p0, .int .i64 z0, .slice A0 l0.length c0] 26
 have hz_t1 : (w.alloc (.cells #[.bool o0, .bool p0, .int .i64 z0, .slice A0 l0.length c0] 26)).heap.size = w.heap.size + 1 := World.size_alloc _ _
 have hw_t2 := hb_t1
 have hs_t2 := hb_t1.size
 have hb_t3 := below_alloc (Below.refl _ (w.alloc (.cells #[.bool o0, .bool p0, .int .i64 z0, .slice A0 l0.length c0] 26))) (.cells #[.bool o1, .bool p1, .int .i64 z1, .slice A1 l1.length c1] 26)
 have B1_t3 := blkA (w.alloc (.cells #[.bool o0, .bool p0, .int .i64 z0, .slice A0 l0.length c0] 26)) #[.bool o1, .bool p1, .int .i64 z1, .slice A1 l1.length c1] 26
 simp only [World.size_alloc] at B1_t3
 have hz_t3 : ((w.alloc (.cells #[.bool o0, .bool p0, .int .i64 z0, .slice A0 l0.length c0] 26)).alloc (.cells #[.bool o1, .bool p1, .int .i64 z1, .slice A1 l1.length c1] 26)).heap.size = (w.alloc (.cells #[.bool o0, .bool p0, .int .i64 z0, .slice A0 l0.length c0] 26)).heap.size + 1 := World.size_alloc _ _
 have B0_t4 := B0_t1.next hb_t3
 clear B0_t1
 have hw_t4 := below_next hw_t2 hb_t3
 have hs_t4 := hb_t3.size
 have qB00 : ((w.alloc (.cells #[.bool o0, .bool p0, .int .i64 z0, .slice A0 l0.length c0] 26)).alloc (.cells #[.bool o1, .bool p1, .int .i64 z1, .slice A1 l1.length c1] 26)).cell? ⟨w.heap.size, 0, none⟩ = some (.bool o0) := by rw [B0_t4.cell]; rfl
 have qB01 : ((w.alloc (.cells #[.bool o0, .bool p0, .int .i64 z0, .slice A0 l0.length c0] 26)).alloc (.cells #[.bool o1, .bool p1, .int .i64 z1, .slice A1 l1.length c1] 26)).cell? ⟨w.heap.size, 1, none⟩ = some (.bool p0) := by rw [B0_t4.cell]; rfl
 have qB02 : ((w.alloc (.cells #[.bool o0, .bool p0, .int .i64 z0, .slice A0 l0.length c0] 26)).alloc (.cells #[.bool o1, .bool p1, .int .i64 z1, .slice A1 l1.length c1] 26)).cell? ⟨w.heap.size, 2, none⟩ = some (.int .i64 z0) := by rw [B0_t4.cell]; rfl
 have qB03 : ((w.alloc (.cells #[.bool o0, .bool p0, .int .i64 z0, .slice A0 l0.length c0] 26)).alloc (.cells #[.bool o1, .bool p1, .int .i64 z1, .slice A1 l1.length c1] 26)).cell? ⟨w.heap.size, 3, none⟩ = some (.slice A0 l0.length c0) := by rw [B0_t4.cell]; rfl
 have qB10 : ((w.alloc (.cells #[.bool o0, .bool p0, .int .i64 z0, .slice A0 l0.length c0] 26)).alloc (.cells #[.bool o1, .bool p1, .int .i64 z1, .slice A1 l1.length c1] 26)).cell? ⟨w.heap.size + 1, 0, none⟩ = some (.bool o1) := by rw [B1_t3.cell]; rfl
 have qB11 : ((w.alloc (.cells #[.bool o0, .bool p0, .int .i64 z0, .slice A0 l0.length c0] 26)).alloc (.cells #[.bool o1, .bool p1, .int .i64 z1, .slice A1 l1.length c1] 26)).cell? ⟨w.heap.size + 1, 1, none⟩ = some (.bool p1) := by rw [B1_t3.cell]; rfl
 have qB12 : ((w.alloc (.cells #[.bool o0, .bool p0, .int .i64 z0, .slice A0 l0.length c0] 26)).alloc (.cells #[.bool o1, .bool p1, .int .i64 z1, .slice A1 l1.length c1] 26)).cell? ⟨w.heap.size + 1, 2, none⟩ = some (.int .i64 z1) := by rw [B1_t3.cell]; rfl
 have qB13 : ((w.alloc (.cells #[.bool o0, .bool p0, .int .i64 z0, .slice A0 l0.length c0] 26)).alloc (.cells #[.bool o1, .bool p1, .int .i64 z1, .slice A1 l1.length c1] 26)).cell? ⟨w.heap.size + 1, 3, none⟩ = some (.slice A1 l1.length c1) := by rw [B1_t3.cell]; rfl
 go_wp2_with fail
 clear qB00 qB01 qB02 qB03 qB10 qB11 qB12 qB13
 refine (szSeat_c o0 p0 z0 A0 c0 l0 1048576 _ hf0 hc0 hm0 (by omega) (by omega) ((hr0.below hw_t4).more hw_t4.size)).mono ?_
 rintro e w1 ⟨rfl, hb1⟩
 rw [H0.out]
 have B0_t5 := B0_t4.next hb1
 clear B0_t4
 have B1_t5 := B1_t3.next hb1
 clear B1_t3
 have hw_t5 := below_next hw_t4 hb1
 have hs_t5 := hb1.size
 have qB00 : w1.cell? ⟨w.heap.size, 0, none⟩ = some (.bool o0) := by rw [B0_t5.cell]; rfl
 have qB01 : w1.cell? ⟨w.heap.size, 1, none⟩ = some (.bool p0) := by rw [B0_t5.cell]; rfl
 have qB02 : w1.cell? ⟨w.heap.size, 2, none⟩ = some (.int .i64 z0) := by rw [B0_t5.cell]; rfl
 have qB03 : w1.cell? ⟨w.heap.size, 3, none⟩ = some (.slice A0 l0.length c0) := by rw [B0_t5.cell]; rfl
 have qB10 : w1.cell? ⟨w.heap.size + 1, 0, none⟩ = some (.bool o1) := by rw [B1_t5.cell]; rfl
 have qB11 : w1.cell? ⟨w.heap.size + 1, 1, none⟩ = some (.bool p1) := by rw [B1_t5.cell]; rfl
 have qB12 : w1.cell? ⟨w.heap.size + 1, 2, none⟩ = some (.int .i64 z1) := by rw [B1_t5.cell]; rfl
 have qB13 : w1.cell? ⟨w.heap.size + 1, 3, none⟩ = some (.slice A1 l1.length c1) := by rw [B1_t5.cell]; rfl
 go_wp2_with fail
 clear qB00 qB01 qB02 qB03 qB10 qB11 qB12 qB13
 refine (szSeat_c o1 p1 z1 A1 c1 l1 L0 _ hf1 hc1 hm1 (by omega) (by omega) ((hr1.below hw_t5).more hw_t5.size)).mono ?_
 rintro e w2 ⟨rfl, hb2⟩
 rw [H1.out]
 have B0_t6 := B0_t5.next hb2
 clear B0_t5
 have B1_t6 := B1_t5.next hb2
 clear B1_t5
 have hw_t6 := below_next hw_t5 hb2
 have hs_t6 := hb2.size
 have qB00 : w2.cell? ⟨w.heap.size, 0, none⟩ = some (.bool o0) := by rw [B0_t6.cell]; rfl
 have qB01 : w2.cell? ⟨w.heap.size, 1, none⟩ = some (.bool p0) := by rw [B0_t6.cell]; rfl
 have qB02 : w2.cell? ⟨w.heap.size, 2, none⟩ = some (.int .i64 z0) := by rw [B0_t6.cell]; rfl
 have qB03 : w2.cell? ⟨w.heap.size, 3, none⟩ = some (.slice A0 l0.length c0) := by rw [B0_t6.cell]; rfl
 have qB10 : w2.cell? ⟨w.heap.size + 1, 0, none⟩ = some (.bool o1) := by rw [B1_t6.cell]; rfl
 have qB11 : w2.cell? ⟨w.heap.size + 1, 1, none⟩ = some (.bool p1) := by rw [B1_t6.cell]; rfl
 have qB12 : w2.cell? ⟨w.heap.size + 1, 2, none⟩ = some (.int .i64 z1) := by rw [B1_t6.cell]; rfl
 have qB13 : w2.cell? ⟨w.heap.size + 1, 3, none⟩ = some (.slice A1 l1.length c1) := by rw [B1_t6.cell]; rfl
 go_wp2
 clear qB00 qB01 qB02 qB03 qB10 qB11 qB12 qB13
 have hb_t7 : Below w2.heap.size w2 w2.drew := (Below.refl _ _).drew
 have B0_t8 := B0_t6.next hb_t7
 clear B0_t6
 have B1_t8 := B1_t6.next hb_t7
 clear B1_t6
 have hw_t8 := below_next hw_t6 hb_t7
 have hs_t8 := hb_t7.size
 refine wp_region_held_drew (S := (fun W => W.cell? ⟨w.heap.size, 0, none⟩ = some (.bool o0) ∧ W.cell? ⟨w.heap.size, 1, none⟩ = some (.bool p0) ∧ W.cell? ⟨w.heap.size, 2, none⟩ = some (.int .i64 z0) ∧ W.cell? ⟨w.heap.size, 3, none⟩ = some (.slice A0 l0.length c0) ∧ W.cell? ⟨w.heap.size + 1, 0, none⟩ = some (.bool o1) ∧ W.cell? ⟨w.heap.size + 1, 1, none⟩ = some (.bool p1) ∧ W.cell? ⟨w.heap.size + 1, 2, none⟩ = some (.int .i64 z1) ∧ W.cell? ⟨w.heap.size + 1, 3, none⟩ = some (.slice A1 l1.length c1))) (by kernel_rfl) ?_ (fun hHeld => ?_)
 focus ((try dsimp only); (exact ⟨by rw [B0_t8.cell]; rfl, by rw [B0_t8.cell]; rfl, by rw [B0_t8.cell]; rfl, by rw [B0_t8.cell]; rfl, by rw [B1_t8.cell]; rfl, by rw [B1_t8.cell]; rfl, by rw [B1_t8.cell]; rfl, by rw [B1_t8.cell]; rfl⟩))
 (refine tkW (i := 0) (v := ?_) (by (simp only [ga, gc]; rfl)) (by kernel_rfl) (by (intro _ _ _ h; exact h)) (by rfl) ?_ (by assumption) ?_; rotate_left; (focus ((intro w hSw; (try dsimp only at hSw); go_simp) <;> with_reducible rfl)); (try simp only [Act.put, pa, pb, pc]))
 (refine tkW (i := 2) (v := ?_) (by (simp only [ga, gb, gc]; rfl)) (by kernel_rfl) (by (intro _ _ _ h; exact h)) (by rfl) ?_ (by assumption) ?_; rotate_left; (focus ((intro w hSw; (try dsimp only at hSw); go_simp) <;> with_reducible rfl)); (try simp only [Act.put, pa, pb, pc]))
 (refine wpAnyH_ready (rs := [1]) (by kernel_rfl) (by simp) ?_; refine AllReadyH.cons (by (simp only [ga, gb, gc]; rfl)) (fun K hK => ?_) AllReadyH.nil; go_simp; (go_at_call 6; refine (toSeat_c o0 p0 z0 A0 c0 l0 _ hc0 hlen0 ((hr0.below hw_t8).more hw_t8.size)).mono ?_; rintro e w3 ⟨gY0, rfl, Y0_n, ge_Y00, lt_Y00, hb3⟩; have B0_t9 := B0_t8.next hb3; clear B0_t8; have B1_t9 := B1_t8.next hb3; clear B1_t8; have hw_t9 := below_next hw_t8 hb3; have hs_t9 := hb3.size; have ge_Y0 : ∀ g, (Value.slice (some ⟨gY0, 0, none⟩) l0.length l0.length).ownBlock = some g → (w2.drew).heap.size ≤ g := fun g hg => (by have : gY0 = g := Option.some.inj hg; omega); have lt_Y0 : ∀ g, (Value.slice (some ⟨gY0, 0, none⟩) l0.length l0.length).ownBlock = some g → g < w3.heap.size := fun g hg => (by have : gY0 = g := Option.some.inj hg; omega); clear ge_Y00 lt_Y00); go_wp2_with fail; refine hK.out _ _ ?_ (fun hHeld => ?_); (focus ((try dsimp only); (exact ⟨by rw [B0_t9.cell]; rfl, by rw [B0_t9.cell]; rfl, by rw [B0_t9.cell]; rfl, by rw [B0_t9.cell]; rfl, by rw [B1_t9.cell]; rfl, by rw [B1_t9.cell]; rfl, by rw [B1_t9.cell]; rfl, by rw [B1_t9.cell]; rfl⟩))); clear hK K; (try simp only [Act.put, pa, pb, pc]))
 (refine wpAnyH_ready (rs := [3]) (by kernel_rfl) (by simp) ?_; refine AllReadyH.cons (by (simp only [ga, gb, gc]; rfl)) (fun K hK => ?_) AllReadyH.nil; go_simp; (go_at_call 6; refine (toSeat_c o1 p1 z1 A1 c1 l1 _ hc1 hlen1 ((hr1.below hw_t9).more hw_t9.size)).mono ?_; rintro e w4 ⟨gY1, rfl, Y1_n, ge_Y10, lt_Y10, hb4⟩; have Y0_t10 := Y0_n.next hb4; clear Y0_n; have B0_t10 := B0_t9.next hb4; clear B0_t9; have B1_t10 := B1_t9.next hb4; clear B1_t9; have hw_t10 := below_next hw_t9 hb4; have hs_t10 := hb4.size; have ge_Y1 : ∀ g, (Value.slice (some ⟨gY1, 0, none⟩) l1.length l1.length).ownBlock = some g → (w3).heap.size ≤ g := fun g hg => (by have : gY1 = g := Option.some.inj hg; omega); have lt_Y1 : ∀ g, (Value.slice (some ⟨gY1, 0, none⟩) l1.length l1.length).ownBlock = some g → g < w4.heap.size := fun g hg => (by have : gY1 = g := Option.some.inj hg; omega); clear ge_Y10 lt_Y10); go_wp2_with fail; refine hK.out _ _ ?_ (fun hHeld => ?_); (focus ((try dsimp only); (exact ⟨by rw [B0_t10.cell]; rfl, by rw [B0_t10.cell]; rfl, by rw [B0_t10.cell]; rfl, by rw [B0_t10.cell]; rfl, by rw [B1_t10.cell]; rfl, by rw [B1_t10.cell]; rfl, by rw [B1_t10.cell]; rfl, by rw [B1_t10.cell]; rfl⟩))); clear hK K; (try simp only [Act.put, pa, pb, pc]))
 (refine wpAnyH_ready (rs := [4]) (by kernel_rfl) (by simp) ?_; refine AllReadyH.cons (by (simp only [ga, gb, gc]; rfl)) (fun K hK => ?_) AllReadyH.nil; go_simp; (go_at_call 5; refine (specSeatSameS Y0_t10 Y1_n (by omega) (by omega)).mono ?_; rw [HV0.out]; rintro e w5 ⟨rfl, hb5⟩; have Y0_t11 := Y0_t10.next hb5; clear Y0_t10; have Y1_t11 := Y1_n.next hb5; clear Y1_n; have B0_t11 := B0_t10.next hb5; clear B0_t10; have B1_t11 := B1_t10.next hb5; clear B1_t10; have hw_t11 := below_next hw_t10 hb5; have hs_t11 := hb5.size); go_wp2_with fail; refine hK.out _ _ ?_ (fun hHeld => ?_); (focus ((try dsimp only); (exact ⟨by rw [B0_t11.cell]; rfl, by rw [B0_t11.cell]; rfl, by rw [B0_t11.cell]; rfl, by rw [B0_t11.cell]; rfl, by rw [B1_t11.cell]; rfl, by rw [B1_t11.cell]; rfl, by rw [B1_t11.cell]; rfl, by rw [B1_t11.cell]; rfl⟩))); clear hK K; (try simp only [Act.put, pa, pb, pc]))
 (refine tkW (i := 5) (v := ?_) (by (simp only [ga, gb, gc]; rfl)) (by kernel_rfl) (by (intro _ _ _ h; exact h)) (by rfl) ?_ (by assumption) ?_; rotate_left; (focus ((intro w hSw; (try dsimp only at hSw); go_simp) <;> with_reducible rfl)); (try simp only [Act.put, pa, pb, pc]))
 refine wpAnyH_done (by kernel_rfl) ?_ _
 clear Y0_t11
 clear Y1_t11
 have qB00 : w5.cell? ⟨w.heap.size, 0, none⟩ = some (.bool o0) := by rw [B0_t11.cell]; rfl
 have qB01 : w5.cell? ⟨w.heap.size, 1, none⟩ = some (.bool p0) := by rw [B0_t11.cell]; rfl
 have qB02 : w5.cell? ⟨w.heap.size, 2, none⟩ = some (.int .i64 z0) := by rw [B0_t11.cell]; rfl
 have qB03 : w5.cell? ⟨w.heap.size, 3, none⟩ = some (.slice A0 l0.length c0) := by rw [B0_t11.cell]; rfl
 have qB10 : w5.cell? ⟨w.heap.size + 1, 0, none⟩ = some (.bool o1) := by rw [B1_t11.cell]; rfl
 have qB11 : w5.cell? ⟨w.heap.size + 1, 1, none⟩ = some (.bool p1) := by rw [B1_t11.cell]; rfl
 have qB12 : w5.cell? ⟨w.heap.size + 1, 2, none⟩ = some (.int .i64 z1) := by rw [B1_t11.cell]; rfl
 have qB13 : w5.cell? ⟨w.heap.size + 1, 3, none⟩ = some (.slice A1 l1.length c1) := by rw [B1_t11.cell]; rfl
 go_wp2_with fail
 clear qB00 qB01 qB02 qB03 qB10 qB11 qB12 qB13
 refine (toSeat_c o0 p0 z0 A0 c0 l0 _ hc0 hlen0 ((hr0.below hw_t11).more hw_t11.size)).mono ?_
 rintro e w6 ⟨gX0, rfl, X0_n, ge_X00, lt_X00, hb6⟩
 have B0_t12 := B0_t11.next hb6
 clear B0_t11
 have B1_t12 := B1_t11.next hb6
 clear B1_t11
 have hw_t12 := below_next hw_t11 hb6
 have hs_t12 := hb6.size
 have ge_X0 : ∀ g, (Value.slice (some ⟨gX0, 0, none⟩) l0.length l0.length).ownBlock = some g → (w5).heap.size ≤ g := fun g hg => (by have : gX0 = g := Option.some.inj hg; omega)
 have lt_X0 : ∀ g, (Value.slice (some ⟨gX0, 0, none⟩) l0.length l0.length).ownBlock = some g → g < w6.heap.size := fun g hg => (by have : gX0 = g := Option.some.inj hg; omega)
 clear ge_X00 lt_X00
 have hb_t13 := below_alloc (Below.refl _ w6) (.cells #[.bool o0, .bool p0, .int .i64 z0, .slice (some ⟨gX0, 0, none⟩) l0.length l0.length] 33)
 have Bx0_t13 := blkA w6 #[.bool o0, .bool p0, .int .i64 z0, .slice (some ⟨gX0, 0, none⟩) l0.length l0.length] 33
 have hz_t13 : (w6.alloc (.cells #[.bool o0, .bool p0, .int .i64 z0, .slice (some ⟨gX0, 0, none⟩) l0.length l0.length] 33)).heap.size = w6.heap.size + 1 := World.size_alloc _ _
 have X0_t14 := X0_n.next hb_t13
 clear X0_n
 have B0_t14 := B0_t12.next hb_t13
 clear B0_t12
 have B1_t14 := B1_t12.next hb_t13
 clear B1_t12
 have hw_t14 := below_next hw_t12 hb_t13
 have hs_t14 := hb_t13.size
 have qB00 : (w6.alloc (.cells #[.bool o0, .bool p0, .int .i64 z0, .slice (some ⟨gX0, 0, none⟩) l0.length l0.length] 33)).cell? ⟨w.heap.size, 0, none⟩ = some (.bool o0) := by rw [B0_t14.cell]; rfl
 have qB01 : (w6.alloc (.cells #[.bool o0, .bool p0, .int .i64 z0, .slice (some ⟨gX0, 0, none⟩) l0.length l0.length] 33)).cell? ⟨w.heap.size, 1, none⟩ = some (.bool p0) := by rw [B0_t14.cell]; rfl
 have qB02 : (w6.alloc (.cells #[.bool o0, .bool p0, .int .i64 z0, .slice (some ⟨gX0, 0, none⟩) l0.length l0.length] 33)).cell? ⟨w.heap.size, 2, none⟩ = some (.int .i64 z0) := by rw [B0_t14.cell]; rfl
 have qB03 : (w6.alloc (.cells #[.bool o0, .bool p0, .int .i64 z0, .slice (some ⟨gX0, 0, none⟩) l0.length l0.length] 33)).cell? ⟨w.heap.size, 3, none⟩ = some (.slice A0 l0.length c0) := by rw [B0_t14.cell]; rfl
 have qB10 : (w6.alloc (.cells #[.bool o0, .bool p0, .int .i64 z0, .slice (some ⟨gX0, 0, none⟩) l0.length l0.length] 33)).cell? ⟨w.heap.size + 1, 0, none⟩ = some (.bool o1) := by rw [B1_t14.cell]; rfl
 have qB11 : (w6.alloc (.cells #[.bool o0, .bool p0, .int .i64 z0, .slice (some ⟨gX0, 0, none⟩) l0.length l0.length] 33)).cell? ⟨w.heap.size + 1, 1, none⟩ = some (.bool p1) := by rw [B1_t14.cell]; rfl
 have qB12 : (w6.alloc (.cells #[.bool o0, .bool p0, .int .i64 z0, .slice (some ⟨gX0, 0, none⟩) l0.length l0.length] 33)).cell? ⟨w.heap.size + 1, 2, none⟩ = some (.int .i64 z1) := by rw [B1_t14.cell]; rfl
 have qB13 : (w6.alloc (.cells #[.bool o0, .bool p0, .int .i64 z0, .slice (some ⟨gX0, 0, none⟩) l0.length l0.length] 33)).cell? ⟨w.heap.size + 1, 3, none⟩ = some (.slice A1 l1.length c1) := by rw [B1_t14.cell]; rfl
 have qBx00 : (w6.alloc (.cells #[.bool o0, .bool p0, .int .i64 z0, .slice (some ⟨gX0, 0, none⟩) l0.length l0.length] 33)).cell? ⟨w6.heap.size, 0, none⟩ = some (.bool o0) := by rw [Bx0_t13.cell]; rfl
 have qBx01 : (w6.alloc (.cells #[.bool o0, .bool p0, .int .i64 z0, .slice (some ⟨gX0, 0, none⟩) l0.length l0.length] 33)).cell? ⟨w6.heap.size, 1, none⟩ = some (.bool p0) := by rw [Bx0_t13.cell]; rfl
 have qBx02 : (w6.alloc (.cells #[.bool o0, .bool p0, .int .i64 z0, .slice (some ⟨gX0, 0, none⟩) l0.length l0.length] 33)).cell? ⟨w6.heap.size, 2, none⟩ = some (.int .i64 z0) := by rw [Bx0_t13.cell]; rfl
 have qBx03 : (w6.alloc (.cells #[.bool o0, .bool p0, .int .i64 z0, .slice (some ⟨gX0, 0, none⟩) l0.length l0.length] 33)).cell? ⟨w6.heap.size, 3, none⟩ = some (.slice (some ⟨gX0, 0, none⟩) l0.length l0.length) := by rw [Bx0_t13.cell]; rfl
 go_wp2_with fail
 clear qB00 qB01 qB02 qB03 qB10 qB11 qB12 qB13 qBx00 qBx01 qBx02 qBx03
 refine (toSeat_c o1 p1 z1 A1 c1 l1 _ hc1 hlen1 ((hr1.below hw_t14).more hw_t14.size)).mono ?_
 rintro e w7 ⟨gX1, rfl, X1_n, ge_X10, lt_X10, hb7⟩
 have X0_t15 := X0_t14.next hb7
 clear X0_t14
 have B0_t15 := B0_t14.next hb7
 clear B0_t14
 have B1_t15 := B1_t14.next hb7
 clear B1_t14
 have Bx0_t15 := Bx0_t13.next hb7
 clear Bx0_t13
 have hw_t15 := below_next hw_t14 hb7
 have hs_t15 := hb7.size
 have ge_X1 : ∀ g, (Value.slice (some ⟨gX1, 0, none⟩) l1.length l1.length).ownBlock = some g → ((w6.alloc (.cells #[.bool o0, .bool p0, .int .i64 z0, .slice (some ⟨gX0, 0, none⟩) l0.length l0.length] 33))).heap.size ≤ g := fun g hg => (by have : gX1 = g := Option.some.inj hg; omega)
 have lt_X1 : ∀ g, (Value.slice (some ⟨gX1, 0, none⟩) l1.length l1.length).ownBlock = some g → g < w7.heap.size := fun g hg => (by have : gX1 = g := Option.some.inj hg; omega)
 clear ge_X10 lt_X10
 have hb_t16 := below_alloc (Below.refl _ w7) (.cells #[.bool o1, .bool p1, .int .i64 z1, .slice (some ⟨gX1, 0, none⟩) l1.length l1.length] 33)
 have Bx1_t16 := blkA w7 #[.bool o1, .bool p1, .int .i64 z1, .slice (some ⟨gX1, 0, none⟩) l1.length l1.length] 33
 have hz_t16 : (w7.alloc (.cells #[.bool o1, .bool p1, .int .i64 z1, .slice (some ⟨gX1, 0, none⟩) l1.length l1.length] 33)).heap.size = w7.heap.size + 1 := World.size_alloc _ _
 have X0_t17 := X0_t15.next hb_t16
 clear X0_t15
 have X1_t17 := X1_n.next hb_t16
 clear X1_n
 have B0_t17 := B0_t15.next hb_t16
 clear B0_t15
 have B1_t17 := B1_t15.next hb_t16
 clear B1_t15
 have Bx0_t17 := Bx0_t15.next hb_t16
 clear Bx0_t15
 have hw_t17 := below_next hw_t15 hb_t16
 have hs_t17 := hb_t16.size
 have qB00 : (w7.alloc (.cells #[.bool o1, .bool p1, .int .i64 z1, .slice (some ⟨gX1, 0, none⟩) l1.length l1.length] 33)).cell? ⟨w.heap.size, 0, none⟩ = some (.bool o0) := by rw [B0_t17.cell]; rfl
 have qB01 : (w7.alloc (.cells #[.bool o1, .bool p1, .int .i64 z1, .slice (some ⟨gX1, 0, none⟩) l1.length l1.length] 33)).cell? ⟨w.heap.size, 1, none⟩ = some (.bool p0) := by rw [B0_t17.cell]; rfl
 have qB02 : (w7.alloc (.cells #[.bool o1, .bool p1, .int .i64 z1, .slice (some ⟨gX1, 0, none⟩) l1.length l1.length] 33)).cell? ⟨w.heap.size, 2, none⟩ = some (.int .i64 z0) := by rw [B0_t17.cell]; rfl
 have qB03 : (w7.alloc (.cells #[.bool o1, .bool p1, .int .i64 z1, .slice (some ⟨gX1, 0, none⟩) l1.length l1.length] 33)).cell? ⟨w.heap.size, 3, none⟩ = some (.slice A0 l0.length c0) := by rw [B0_t17.cell]; rfl
 have qB10 : (w7.alloc (.cells #[.bool o1, .bool p1, .int .i64 z1, .slice (some ⟨gX1, 0, none⟩) l1.length l1.length] 33)).cell? ⟨w.heap.size + 1, 0, none⟩ = some (.bool o1) := by rw [B1_t17.cell]; rfl
 have qB11 : (w7.alloc (.cells #[.bool o1, .bool p1, .int .i64 z1, .slice (some ⟨gX1, 0, none⟩) l1.length l1.length] 33)).cell? ⟨w.heap.size + 1, 1, none⟩ = some (.bool p1) := by rw [B1_t17.cell]; rfl
 have qB12 : (w7.alloc (.cells #[.bool o1, .bool p1, .int .i64 z1, .slice (some ⟨gX1, 0, none⟩) l1.length l1.length] 33)).cell? ⟨w.heap.size + 1, 2, none⟩ = some (.int .i64 z1) := by rw [B1_t17.cell]; rfl
 have qB13 : (w7.alloc (.cells #[.bool o1, .bool p1, .int .i64 z1, .slice (some ⟨gX1, 0, none⟩) l1.length l1.length] 33)).cell? ⟨w.heap.size + 1, 3, none⟩ = some (.slice A1 l1.length c1) := by rw [B1_t17.cell]; rfl
 have qBx00 : (w7.alloc (.cells #[.bool o1, .bool p1, .int .i64 z1, .slice (some ⟨gX1, 0, none⟩) l1.length l1.length] 33)).cell? ⟨w6.heap.size, 0, none⟩ = some (.bool o0) := by rw [Bx0_t17.cell]; rfl
 have qBx01 : (w7.alloc (.cells #[.bool o1, .bool p1, .int .i64 z1, .slice (some ⟨gX1, 0, none⟩) l1.length l1.length] 33)).cell? ⟨w6.heap.size, 1, none⟩ = some (.bool p0) := by rw [Bx0_t17.cell]; rfl
 have qBx02 : (w7.alloc (.cells #[.bool o1, .bool p1, .int .i64 z1, .slice (some ⟨gX1, 0, none⟩) l1.length l1.length] 33)).cell? ⟨w6.heap.size, 2, none⟩ = some (.int .i64 z0) := by rw [Bx0_t17.cell]; rfl
 have qBx03 : (w7.alloc (.cells #[.bool o1, .bool p1, .int .i64 z1, .slice (some ⟨gX1, 0, none⟩) l1.length l1.length] 33)).cell? ⟨w6.heap.size, 3, none⟩ = some (.slice (some ⟨gX0, 0, none⟩) l0.length l0.length) := by rw [Bx0_t17.cell]; rfl
 have qBx10 : (w7.alloc (.cells #[.bool o1, .bool p1, .int .i64 z1, .slice (some ⟨gX1, 0, none⟩) l1.length l1.length] 33)).cell? ⟨w7.heap.size, 0, none⟩ = some (.bool o1) := by rw [Bx1_t16.cell]; rfl
 have qBx11 : (w7.alloc (.cells #[.bool o1, .bool p1, .int .i64 z1, .slice (some ⟨gX1, 0, none⟩) l1.length l1.length] 33)).cell? ⟨w7.heap.size, 1, none⟩ = some (.bool p1) := by rw [Bx1_t16.cell]; rfl
 have qBx12 : (w7.alloc (.cells #[.bool o1, .bool p1, .int .i64 z1, .slice (some ⟨gX1, 0, none⟩) l1.length l1.length] 33)).cell? ⟨w7.heap.size, 2, none⟩ = some (.int .i64 z1) := by rw [Bx1_t16.cell]; rfl
 have qBx13 : (w7.alloc (.cells #[.bool o1, .bool p1, .int .i64 z1, .slice (some ⟨gX1, 0, none⟩) l1.length l1.length] 33)).cell? ⟨w7.heap.size, 3, none⟩ = some (.slice (some ⟨gX1, 0, none⟩) l1.length l1.length) := by rw [Bx1_t16.cell]; rfl
 go_wp2_with fail
 clear qB00 qB01 qB02 qB03 qB10 qB11 qB12 qB13 qBx00 qBx01 qBx02 qBx03 qBx10 qBx11 qBx12 qBx13
 refine (implSeatSameO X0_t17 X1_t17 (by omega) (by omega)).mono ?_
 rw [HV0.out]
 rintro e w8 ⟨rfl, hb8⟩
 have X0_t18 := X0_t17.next hb8
 clear X0_t17
 have X1_t18 := X1_t17.next hb8
 clear X1_t17
 have B0_t18 := B0_t17.next hb8
 clear B0_t17
 have B1_t18 := B1_t17.next hb8
 clear B1_t17
 have Bx0_t18 := Bx0_t17.next hb8
 clear Bx0_t17
 have Bx1_t18 := Bx1_t16.next hb8
 clear Bx1_t16
 have hw_t18 := below_next hw_t17 hb8
 have hs_t18 := hb8.size
 have qB00 : w8.cell? ⟨w.heap.size, 0, none⟩ = some (.bool o0) := by rw [B0_t18.cell]; rfl
 have qB01 : w8.cell? ⟨w.heap.size, 1, none⟩ = some (.bool p0) := by rw [B0_t18.cell]; rfl
 have qB02 : w8.cell? ⟨w.heap.size, 2, none⟩ = some (.int .i64 z0) := by rw [B0_t18.cell]; rfl
 have qB03 : w8.cell? ⟨w.heap.size, 3, none⟩ = some (.slice A0 l0.length c0) := by rw [B0_t18.cell]; rfl
 have qB10 : w8.cell? ⟨w.heap.size + 1, 0, none⟩ = some (.bool o1) := by rw [B1_t18.cell]; rfl
 have qB11 : w8.cell? ⟨w.heap.size + 1, 1, none⟩ = some (.bool p1) := by rw [B1_t18.cell]; rfl
 have qB12 : w8.cell? ⟨w.heap.size + 1, 2, none⟩ = some (.int .i64 z1) := by rw [B1_t18.cell]; rfl
 have qB13 : w8.cell? ⟨w.heap.size + 1, 3, none⟩ = some (.slice A1 l1.length c1) := by rw [B1_t18.cell]; rfl
 have qBx00 : w8.cell? ⟨w6.heap.size, 0, none⟩ = some (.bool o0) := by rw [Bx0_t18.cell]; rfl
 have qBx01 : w8.cell? ⟨w6.heap.size, 1, none⟩ = some (.bool p0) := by rw [Bx0_t18.cell]; rfl
 have qBx02 : w8.cell? ⟨w6.heap.size, 2, none⟩ = some (.int .i64 z0) := by rw [Bx0_t18.cell]; rfl
 have qBx03 : w8.cell? ⟨w6.heap.size, 3, none⟩ = some (.slice (some ⟨gX0, 0, none⟩) l0.length l0.length) := by rw [Bx0_t18.cell]; rfl
 have qBx10 : w8.cell? ⟨w7.heap.size, 0, none⟩ = some (.bool o1) := by rw [Bx1_t18.cell]; rfl
 have qBx11 : w8.cell? ⟨w7.heap.size, 1, none⟩ = some (.bool p1) := by rw [Bx1_t18.cell]; rfl
 have qBx12 : w8.cell? ⟨w7.heap.size, 2, none⟩ = some (.int .i64 z1) := by rw [Bx1_t18.cell]; rfl
 have qBx13 : w8.cell? ⟨w7.heap.size, 3, none⟩ = some (.slice (some ⟨gX1, 0, none⟩) l1.length l1.length) := by rw [Bx1_t18.cell]; rfl
 go_wp2
 clear qB00 qB01 qB02 qB03 qB10 qB11 qB12 qB13 qBx00 qBx01 qBx02 qBx03 qBx10 qBx11 qBx12 qBx13
 have hb_t19 : Below w8.heap.size w8 w8.drew := (Below.refl _ _).drew
 have X0_t20 := X0_t18.next hb_t19
 clear X0_t18
 have X1_t20 := X1_t18.next hb_t19
 clear X1_t18
 have B0_t20 := B0_t18.next hb_t19
 clear B0_t18
 have B1_t20 := B1_t18.next hb_t19
 clear B1_t18
 have Bx0_t20 := Bx0_t18.next hb_t19
 clear Bx0_t18
 have Bx1_t20 := Bx1_t18.next hb_t19
 clear Bx1_t18
 have hw_t20 := below_next hw_t18 hb_t19
 have hs_t20 := hb_t19.size
 refine wp_region_held_drew (S := (fun W => W.cell? ⟨w.heap.size, 0, none⟩ = some (.bool o0) ∧ W.cell? ⟨w.heap.size, 1, none⟩ = some (.bool p0) ∧ W.cell? ⟨w.heap.size, 2, none⟩ = some (.int .i64 z0) ∧ W.cell? ⟨w.heap.size, 3, none⟩ = some (.slice A0 l0.length c0) ∧ W.cell? ⟨w.heap.size + 1, 0, none⟩ = some (.bool o1) ∧ W.cell? ⟨w.heap.size + 1, 1, none⟩ = some (.bool p1) ∧ W.cell? ⟨w.heap.size + 1, 2, none⟩ = some (.int .i64 z1) ∧ W.cell? ⟨w.heap.size + 1, 3, none⟩ = some (.slice A1 l1.length c1) ∧ W.cell? ⟨w6.heap.size, 0, none⟩ = some (.bool o0) ∧ W.cell? ⟨w6.heap.size, 1, none⟩ = some (.bool p0) ∧ W.cell? ⟨w6.heap.size, 2, none⟩ = some (.int .i64 z0) ∧ W.cell? ⟨w6.heap.size, 3, none⟩ = some (.slice (some ⟨gX0, 0, none⟩) l0.length l0.length) ∧ W.cell? ⟨w7.heap.size, 0, none⟩ = some (.bool o1) ∧ W.cell? ⟨w7.heap.size, 1, none⟩ = some (.bool p1) ∧ W.cell? ⟨w7.heap.size, 2, none⟩ = some (.int .i64 z1) ∧ W.cell? ⟨w7.heap.size, 3, none⟩ = some (.slice (some ⟨gX1, 0, none⟩) l1.length l1.length))) (by kernel_rfl) ?_ (fun hHeld => ?_)
 focus ((try dsimp only); (exact ⟨by rw [B0_t20.cell]; rfl, by rw [B0_t20.cell]; rfl, by rw [B0_t20.cell]; rfl, by rw [B0_t20.cell]; rfl, by rw [B1_t20.cell]; rfl, by rw [B1_t20.cell]; rfl, by rw [B1_t20.cell]; rfl, by rw [B1_t20.cell]; rfl, by rw [Bx0_t20.cell]; rfl, by rw [Bx0_t20.cell]; rfl, by rw [Bx0_t20.cell]; rfl, by rw [Bx0_t20.cell]; rfl, by rw [Bx1_t20.cell]; rfl, by rw [Bx1_t20.cell]; rfl, by rw [Bx1_t20.cell]; rfl, by rw [Bx1_t20.cell]; rfl⟩))
 (refine tkW (i := 0) (v := ?_) (by (simp only [ga, gc]; rfl)) (by kernel_rfl) (by (intro _ _ _ h; exact h)) (by rfl) ?_ (by assumption) ?_; rotate_left; (focus ((intro w hSw; (try dsimp only at hSw); go_simp) <;> with_reducible rfl)); (try simp only [Act.put, pa, pb, pc]))
 (refine tkW (i := 1) (v := ?_) (by (simp only [ga, gb, gc]; rfl)) (by kernel_rfl) (by (intro _ _ _ h; exact h)) (by rfl) ?_ (by assumption) ?_; rotate_left; (focus ((intro w hSw; (try dsimp only at hSw); go_simp) <;> with_reducible rfl)); (try simp only [Act.put, pa, pb, pc]))
 (refine wpAnyH_ready (rs := [2]) (by kernel_rfl) (by simp) ?_; refine AllReadyH.cons (by (simp only [ga, gb, gc]; rfl)) (fun K hK => ?_) AllReadyH.nil; go_simp; (go_at_call 6; refine (toSeat_c o0 p0 z0 A0 c0 l0 _ hc0 hlen0 ((hr0.below hw_t20).more hw_t20.size)).mono ?_; rintro e w9 ⟨gZ0, rfl, Z0_n, ge_Z00, lt_Z00, hb9⟩; have X0_t21 := X0_t20.next hb9; clear X0_t20; have X1_t21 := X1_t20.next hb9; clear X1_t20; have B0_t21 := B0_t20.next hb9; clear B0_t20; have B1_t21 := B1_t20.next hb9; clear B1_t20; have Bx0_t21 := Bx0_t20.next hb9; clear Bx0_t20; have Bx1_t21 := Bx1_t20.next hb9; clear Bx1_t20; have hw_t21 := below_next hw_t20 hb9; have hs_t21 := hb9.size; have ge_Z0 : ∀ g, (Value.slice (some ⟨gZ0, 0, none⟩) l0.length l0.length).ownBlock = some g → (w8.drew).heap.size ≤ g := fun g hg => (by have : gZ0 = g := Option.some.inj hg; omega); have lt_Z0 : ∀ g, (Value.slice (some ⟨gZ0, 0, none⟩) l0.length l0.length).ownBlock = some g → g < w9.heap.size := fun g hg => (by have : gZ0 = g := Option.some.inj hg; omega); clear ge_Z00 lt_Z00); go_wp2_with fail; refine hK.out _ _ ?_ (fun hHeld => ?_); (focus ((try dsimp only); (exact ⟨by rw [B0_t21.cell]; rfl, by rw [B0_t21.cell]; rfl, by rw [B0_t21.cell]; rfl, by rw [B0_t21.cell]; rfl, by rw [B1_t21.cell]; rfl, by rw [B1_t21.cell]; rfl, by rw [B1_t21.cell]; rfl, by rw [B1_t21.cell]; rfl, by rw [Bx0_t21.cell]; rfl, by rw [Bx0_t21.cell]; rfl, by rw [Bx0_t21.cell]; rfl, by rw [Bx0_t21.cell]; rfl, by rw [Bx1_t21.cell]; rfl, by rw [Bx1_t21.cell]; rfl, by rw [Bx1_t21.cell]; rfl, by rw [Bx1_t21.cell]; rfl⟩))); clear hK K; (try simp only [Act.put, pa, pb, pc]))
 (refine wpAnyH_ready (rs := [3]) (by kernel_rfl) (by simp) ?_; refine AllReadyH.cons (by (simp only [ga, gb, gc]; rfl)) (fun K hK => ?_) AllReadyH.nil; go_simp; (go_at_call 8; refine (eqSeat_c o0 p0 z0 _ _ l0 _ _ _ X0_t21 Z0_n (by omega)).mono ?_; rintro e w10 ⟨rfl, hb10⟩; have X0_t22 := X0_t21.next hb10; clear X0_t21; have X1_t22 := X1_t21.next hb10; clear X1_t21; have Z0_t22 := Z0_n.next hb10; clear Z0_n; have B0_t22 := B0_t21.next hb10; clear B0_t21; have B1_t22 := B1_t21.next hb10; clear B1_t21; have Bx0_t22 := Bx0_t21.next hb10; clear Bx0_t21; have Bx1_t22 := Bx1_t21.next hb10; clear Bx1_t21; have hw_t22 := below_next hw_t21 hb10; have hs_t22 := hb10.size); go_wp2_with fail; refine hK.out _ _ ?_ (fun hHeld => ?_); (focus ((try dsimp only); (exact ⟨by rw [B0_t22.cell]; rfl, by rw [B0_t22.cell]; rfl, by rw [B0_t22.cell]; rfl, by rw [B0_t22.cell]; rfl, by rw [B1_t22.cell]; rfl, by rw [B1_t22.cell]; rfl, by rw [B1_t22.cell]; rfl, by rw [B1_t22.cell]; rfl, by rw [Bx0_t22.cell]; rfl, by rw [Bx0_t22.cell]; rfl, by rw [Bx0_t22.cell]; rfl, by rw [Bx0_t22.cell]; rfl, by rw [Bx1_t22.cell]; rfl, by rw [Bx1_t22.cell]; rfl, by rw [Bx1_t22.cell]; rfl, by rw [Bx1_t22.cell]; rfl⟩))); clear hK K; (try simp only [Act.put, pa, pb, pc]))
 (refine tkW (i := 4) (v := ?_) (by (simp only [ga, gb, gc]; rfl)) (by kernel_rfl) (by (intro _ _ _ h; exact h)) (by rfl) ?_ (by assumption) ?_; rotate_left; (focus ((intro w hSw; (try dsimp only at hSw); go_simp) <;> with_reducible rfl)); (try simp only [Act.put, pa, pb, pc]))
 refine wpAnyH_done (by kernel_rfl) ?_ _
 clear Z0_t22
 have qB00 : w10.cell? ⟨w.heap.size, 0, none⟩ = some (.bool o0) := by rw [B0_t22.cell]; rfl
 have qB01 : w10.cell? ⟨w.heap.size, 1, none⟩ = some (.bool p0) := by rw [B0_t22.cell]; rfl
 have qB02 : w10.cell? ⟨w.heap.size, 2, none⟩ = some (.int .i64 z0) := by rw [B0_t22.cell]; rfl
 have qB03 : w10.cell? ⟨w.heap.size, 3, none⟩ = some (.slice A0 l0.length c0) := by rw [B0_t22.cell]; rfl
 have qB10 : w10.cell? ⟨w.heap.size + 1, 0, none⟩ = some (.bool o1) := by rw [B1_t22.cell]; rfl
 have qB11 : w10.cell? ⟨w.heap.size + 1, 1, none⟩ = some (.bool p1) := by rw [B1_t22.cell]; rfl
 have qB12 : w10.cell? ⟨w.heap.size + 1, 2, none⟩ = some (.int .i64 z1) := by rw [B1_t22.cell]; rfl
 have qB13 : w10.cell? ⟨w.heap.size + 1, 3, none⟩ = some (.slice A1 l1.length c1) := by rw [B1_t22.cell]; rfl
 have qBx00 : w10.cell? ⟨w6.heap.size, 0, none⟩ = some (.bool o0) := by rw [Bx0_t22.cell]; rfl
 have qBx01 : w10.cell? ⟨w6.heap.size, 1, none⟩ = some (.bool p0) := by rw [Bx0_t22.cell]; rfl
 have qBx02 : w10.cell? ⟨w6.heap.size, 2, none⟩ = some (.int .i64 z0) := by rw [Bx0_t22.cell]; rfl
 have qBx03 : w10.cell? ⟨w6.heap.size, 3, none⟩ = some (.slice (some ⟨gX0, 0, none⟩) l0.length l0.length) := by rw [Bx0_t22.cell]; rfl
 have qBx10 : w10.cell? ⟨w7.heap.size, 0, none⟩ = some (.bool o1) := by rw [Bx1_t22.cell]; rfl
 have qBx11 : w10.cell? ⟨w7.heap.size, 1, none⟩ = some (.bool p1) := by rw [Bx1_t22.cell]; rfl
 have qBx12 : w10.cell? ⟨w7.heap.size, 2, none⟩ = some (.int .i64 z1) := by rw [Bx1_t22.cell]; rfl
 have qBx13 : w10.cell? ⟨w7.heap.size, 3, none⟩ = some (.slice (some ⟨gX1, 0, none⟩) l1.length l1.length) := by rw [Bx1_t22.cell]; rfl
 go_wp2
 clear qB00 qB01 qB02 qB03 qB10 qB11 qB12 qB13 qBx00 qBx01 qBx02 qBx03 qBx10 qBx11 qBx12 qBx13
 have hb_t23 : Below w10.heap.size w10 w10.drew := (Below.refl _ _).drew
 have X0_t24 := X0_t22.next hb_t23
 clear X0_t22
 have X1_t24 := X1_t22.next hb_t23
 clear X1_t22
 have B0_t24 := B0_t22.next hb_t23
 clear B0_t22
 have B1_t24 := B1_t22.next hb_t23
 clear B1_t22
 have Bx0_t24 := Bx0_t22.next hb_t23
 clear Bx0_t22
 have Bx1_t24 := Bx1_t22.next hb_t23
 clear Bx1_t22
 have hw_t24 := below_next hw_t22 hb_t23
 have hs_t24 := hb_t23.size
 refine wp_region_held_drew (S := (fun W => W.cell? ⟨w.heap.size, 0, none⟩ = some (.bool o0) ∧ W.cell? ⟨w.heap.size, 1, none⟩ = some (.bool p0) ∧ W.cell? ⟨w.heap.size, 2, none⟩ = some (.int .i64 z0) ∧ W.cell? ⟨w.heap.size, 3, none⟩ = some (.slice A0 l0.length c0) ∧ W.cell? ⟨w.heap.size + 1, 0, none⟩ = some (.bool o1) ∧ W.cell? ⟨w.heap.size + 1, 1, none⟩ = some (.bool p1) ∧ W.cell? ⟨w.heap.size + 1, 2, none⟩ = some (.int .i64 z1) ∧ W.cell? ⟨w.heap.size + 1, 3, none⟩ = some (.slice A1 l1.length c1) ∧ W.cell? ⟨w6.heap.size, 0, none⟩ = some (.bool o0) ∧ W.cell? ⟨w6.heap.size, 1, none⟩ = some (.bool p0) ∧ W.cell? ⟨w6.heap.size, 2, none⟩ = some (.int .i64 z0) ∧ W.cell? ⟨w6.heap.size, 3, none⟩ = some (.slice (some ⟨gX0, 0, none⟩) l0.length l0.length) ∧ W.cell? ⟨w7.heap.size, 0, none⟩ = some (.bool o1) ∧ W.cell? ⟨w7.heap.size, 1, none⟩ = some (.bool p1) ∧ W.cell? ⟨w7.heap.size, 2, none⟩ = some (.int .i64 z1) ∧ W.cell? ⟨w7.heap.size, 3, none⟩ = some (.slice (some ⟨gX1, 0, none⟩) l1.length l1.length))) (by kernel_rfl) ?_ (fun hHeld => ?_)
 focus ((try dsimp only); (exact ⟨by rw [B0_t24.cell]; rfl, by rw [B0_t24.cell]; rfl, by rw [B0_t24.cell]; rfl, by rw [B0_t24.cell]; rfl, by rw [B1_t24.cell]; rfl, by rw [B1_t24.cell]; rfl, by rw [B1_t24.cell]; rfl, by rw [B1_t24.cell]; rfl, by rw [Bx0_t24.cell]; rfl, by rw [Bx0_t24.cell]; rfl, by rw [Bx0_t24.cell]; rfl, by rw [Bx0_t24.cell]; rfl, by rw [Bx1_t24.cell]; rfl, by rw [Bx1_t24.cell]; rfl, by rw [Bx1_t24.cell]; rfl, by rw [Bx1_t24.cell]; rfl⟩))
 (refine tkW (i := 0) (v := ?_) (by (simp only [ga, gc]; rfl)) (by kernel_rfl) (by (intro _ _ _ h; exact h)) (by rfl) ?_ (by assumption) ?_; rotate_left; (focus ((intro w hSw; (try dsimp only at hSw); go_simp) <;> with_reducible rfl)); (try simp only [Act.put, pa, pb, pc]))
 (refine tkW (i := 1) (v := ?_) (by (simp only [ga, gb, gc]; rfl)) (by kernel_rfl) (by (intro _ _ _ h; exact h)) (by rfl) ?_ (by assumption) ?_; rotate_left; (focus ((intro w hSw; (try dsimp only at hSw); go_simp) <;> with_reducible rfl)); (try simp only [Act.put, pa, pb, pc]))
 (refine wpAnyH_ready (rs := [2]) (by kernel_rfl) (by simp) ?_; refine AllReadyH.cons (by (simp only [ga, gb, gc]; rfl)) (fun K hK => ?_) AllReadyH.nil; go_simp; (go_at_call 6; refine (toSeat_c o1 p1 z1 A1 c1 l1 _ hc1 hlen1 ((hr1.below hw_t24).more hw_t24.size)).mono ?_; rintro e w11 ⟨gZ1, rfl, Z1_n, ge_Z10, lt_Z10, hb11⟩; have X0_t25 := X0_t24.next hb11; clear X0_t24; have X1_t25 := X1_t24.next hb11; clear X1_t24; have B0_t25 := B0_t24.next hb11; clear B0_t24; have B1_t25 := B1_t24.next hb11; clear B1_t24; have Bx0_t25 := Bx0_t24.next hb11; clear Bx0_t24; have Bx1_t25 := Bx1_t24.next hb11; clear Bx1_t24; have hw_t25 := below_next hw_t24 hb11; have hs_t25 := hb11.size; have ge_Z1 : ∀ g, (Value.slice (some ⟨gZ1, 0, none⟩) l1.length l1.length).ownBlock = some g → (w10.drew).heap.size ≤ g := fun g hg => (by have : gZ1 = g := Option.some.inj hg; omega); have lt_Z1 : ∀ g, (Value.slice (some ⟨gZ1, 0, none⟩) l1.length l1.length).ownBlock = some g → g < w11.heap.size := fun g hg => (by have : gZ1 = g := Option.some.inj hg; omega); clear ge_Z10 lt_Z10); go_wp2_with fail; refine hK.out _ _ ?_ (fun hHeld => ?_); (focus ((try dsimp only); (exact ⟨by rw [B0_t25.cell]; rfl, by rw [B0_t25.cell]; rfl, by rw [B0_t25.cell]; rfl, by rw [B0_t25.cell]; rfl, by rw [B1_t25.cell]; rfl, by rw [B1_t25.cell]; rfl, by rw [B1_t25.cell]; rfl, by rw [B1_t25.cell]; rfl, by rw [Bx0_t25.cell]; rfl, by rw [Bx0_t25.cell]; rfl, by rw [Bx0_t25.cell]; rfl, by rw [Bx0_t25.cell]; rfl, by rw [Bx1_t25.cell]; rfl, by rw [Bx1_t25.cell]; rfl, by rw [Bx1_t25.cell]; rfl, by rw [Bx1_t25.cell]; rfl⟩))); clear hK K; (try simp only [Act.put, pa, pb, pc]))
 (refine wpAnyH_ready (rs := [3]) (by kernel_rfl) (by simp) ?_; refine AllReadyH.cons (by (simp only [ga, gb, gc]; rfl)) (fun K hK => ?_) AllReadyH.nil; go_simp; (go_at_call 8; refine (eqSeat_c o1 p1 z1 _ _ l1 _ _ _ X1_t25 Z1_n (by omega)).mono ?_; rintro e w12 ⟨rfl, hb12⟩; have X0_t26 := X0_t25.next hb12; clear X0_t25; have X1_t26 := X1_t25.next hb12; clear X1_t25; have Z1_t26 := Z1_n.next hb12; clear Z1_n; have B0_t26 := B0_t25.next hb12; clear B0_t25; have B1_t26 := B1_t25.next hb12; clear B1_t25; have Bx0_t26 := Bx0_t25.next hb12; clear Bx0_t25; have Bx1_t26 := Bx1_t25.next hb12; clear Bx1_t25; have hw_t26 := below_next hw_t25 hb12; have hs_t26 := hb12.size); go_wp2_with fail; refine hK.out _ _ ?_ (fun hHeld => ?_); (focus ((try dsimp only); (exact ⟨by rw [B0_t26.cell]; rfl, by rw [B0_t26.cell]; rfl, by rw [B0_t26.cell]; rfl, by rw [B0_t26.cell]; rfl, by rw [B1_t26.cell]; rfl, by rw [B1_t26.cell]; rfl, by rw [B1_t26.cell]; rfl, by rw [B1_t26.cell]; rfl, by rw [Bx0_t26.cell]; rfl, by rw [Bx0_t26.cell]; rfl, by rw [Bx0_t26.cell]; rfl, by rw [Bx0_t26.cell]; rfl, by rw [Bx1_t26.cell]; rfl, by rw [Bx1_t26.cell]; rfl, by rw [Bx1_t26.cell]; rfl, by rw [Bx1_t26.cell]; rfl⟩))); clear hK K; (try simp only [Act.put, pa, pb, pc]))
 (refine tkW (i := 4) (v := ?_) (by (simp only [ga, gb, gc]; rfl)) (by kernel_rfl) (by (intro _ _ _ h; exact h)) (by rfl) ?_ (by assumption) ?_; rotate_left; (focus ((intro w hSw; (try dsimp only at hSw); go_simp) <;> with_reducible rfl)); (try simp only [Act.put, pa, pb, pc]))
 refine wpAnyH_done (by kernel_rfl) ?_ _
 clear Z1_t26
 have qB00 : w12.cell? ⟨w.heap.size, 0, none⟩ = some (.bool o0) := by rw [B0_t26.cell]; rfl
 have qB01 : w12.cell? ⟨w.heap.size, 1, none⟩ = some (.bool p0) := by rw [B0_t26.cell]; rfl
 have qB02 : w12.cell? ⟨w.heap.size, 2, none⟩ = some (.int .i64 z0) := by rw [B0_t26.cell]; rfl
 have qB03 : w12.cell? ⟨w.heap.size, 3, none⟩ = some (.slice A0 l0.length c0) := by rw [B0_t26.cell]; rfl
 have qB10 : w12.cell? ⟨w.heap.size + 1, 0, none⟩ = some (.bool o1) := by rw [B1_t26.cell]; rfl
 have qB11 : w12.cell? ⟨w.heap.size + 1, 1, none⟩ = some (.bool p1) := by rw [B1_t26.cell]; rfl
 have qB12 : w12.cell? ⟨w.heap.size + 1, 2, none⟩ = some (.int .i64 z1) := by rw [B1_t26.cell]; rfl
 have qB13 : w12.cell? ⟨w.heap.size + 1, 3, none⟩ = some (.slice A1 l1.length c1) := by rw [B1_t26.cell]; rfl
 have qBx00 : w12.cell? ⟨w6.heap.size, 0, none⟩ = some (.bool o0) := by rw [Bx0_t26.cell]; rfl
 have qBx01 : w12.cell? ⟨w6.heap.size, 1, none⟩ = some (.bool p0) := by rw [Bx0_t26.cell]; rfl
 have qBx02 : w12.cell? ⟨w6.heap.size, 2, none⟩ = some (.int .i64 z0) := by rw [Bx0_t26.cell]; rfl
 have qBx03 : w12.cell? ⟨w6.heap.size, 3, none⟩ = some (.slice (some ⟨gX0, 0, none⟩) l0.length l0.length) := by rw [Bx0_t26.cell]; rfl
 have qBx10 : w12.cell? ⟨w7.heap.size, 0, none⟩ = some (.bool o1) := by rw [Bx1_t26.cell]; rfl
 have qBx11 : w12.cell? ⟨w7.heap.size, 1, none⟩ = some (.bool p1) := by rw [Bx1_t26.cell]; rfl
 have qBx12 : w12.cell? ⟨w7.heap.size, 2, none⟩ = some (.int .i64 z1) := by rw [Bx1_t26.cell]; rfl
 have qBx13 : w12.cell? ⟨w7.heap.size, 3, none⟩ = some (.slice (some ⟨gX1, 0, none⟩) l1.length l1.length) := by rw [Bx1_t26.cell]; rfl
 go_wp2
 go_ret
 exact ⟨rfl, hw_t26⟩

set_option maxRecDepth 100000 in
theorem lifted (os : Os) (started : os.Started) (H : Type) (enc : TypeId × Value → H) :
  ReturnsInHanded {} Try.checked os 3 .any (Rows.fnExactSeatSameSpec.pre6 enc Try.prog Try.f3 Rows.fnExactSeatSameRow.domain false) (Rows.fnExactSeatSameSpec.post enc Try.prog Try.f3 false true false false) := by
 refine returnsInHanded_of_change (C := Try.checked) Whole.own started (by kernel_rfl) Try.func3
  (ChangeSpec.witness6 (enc := enc) (C := Try.checked) false ⟨#[], #[.agg #[.bool false, .bool false, .int .i64 0, .slice none 0 0], .agg #[.bool false, .bool false, .int .i64 0, .slice none 0 0]], []⟩ 8 (by kernel_rfl) (by kernel_rfl) (by kernel_rfl) (by kernel_rfl)) ?_
 intro W base args ds gs before hval0 hW hcnd _
 have hval : ∀ (j : Nat) t v, Try.f3.params[j]? = some t → args[j]? = some v → Value.okWide Try.prog W .any base t v := hval0
 have hW' := hW
 obtain ⟨p, q, hA0, hV, rfl, hfz, hnd⟩ := hW
 have hA : DataW.TrodAll enc Try.prog W 0 (fun _ => true) true Try.f3.params.toList args.toList ds p := hA0
 rw [Try.params3] at hA hval
 obtain ⟨v0, vs0, d0, ds0, p0, q0, hargs, rfl, rfl, h0, r0⟩ := trodAll_cons hA
 obtain ⟨v1, vs1, d1, ds1, p1, q1, rfl, rfl, rfl, h1, r1⟩ := trodAll_cons r0
 obtain ⟨rfl, rfl, rfl⟩ := trodAll_nil r1
 obtain rfl : args = #[v0, v1] := by cases args; simp_all
 obtain ⟨rfl, rfl⟩ := trodVars_none hV
 have k0 := h0
 have lt0 : ∀ x ∈ p0, x.block < W.heap.size := by obtain ⟨m, hm⟩ := k0; exact DataW.trod_lt m _ _ _ hm
 obtain ⟨o0, p0, z0, A0, c0, l0, rfl, hz0, hc0, hm0, hf0, hr0⟩ := openArgSeat (hval 0 26 v0 rfl rfl) h0
 have k1 := h1
 have lt1 : ∀ x ∈ p1, x.block < W.heap.size := by obtain ⟨m, hm⟩ := k1; exact DataW.trod_lt m _ _ _ hm
 obtain ⟨o1, p1, z1, A1, c1, l1, rfl, hz1, hc1, hm1, hf1, hr1⟩ := openArgSeat (hval 1 26 v1 rfl rfl) h1
 clear hA0 hval0
 refine (walk o0 p0 z0 A0 c0 l0 o1 p1 z1 A1 c1 l1 W hz0 hc0 hm0 hf0 hr0 hz1 hc1 hm1 hf1 hr1).mono fun e W' ⟨he, bel⟩ => ?_
 subst he
 exact ⟨_, rfl, _, _, _, [], _, [], hW', trodAll_mk1 (shut_bool Try.underlying4 _), (trodAll_cons_mk (Below.trod Whole.laidOut (by kernel_rfl) (of_decide_eq_true (by kernel_rfl)) k0 bel lt0) (trodAll_cons_mk (Below.trod Whole.laidOut (by kernel_rfl) (of_decide_eq_true (by kernel_rfl)) k1 bel lt1) trodAll_mk0)), rfl, bel.frame _, fun h => by cases h⟩

theorem named : Try.prog.funcNamed Rows.fnExactSeatSameRow.func = some 3 := by kernel_rfl
theorem closed : Whole.lawFacts Try.prog 3 Try.f3 Rows.fnExactSeatSameSpec Rows.fnExactSeatSameRow = true := by kernel_rfl
theorem inst : Try.f3.isInstance Try.prog Rows.fnExactSeatSameRow.origin Rows.fnExactSeatSameRow.targs := of_decide_eq_true (by kernel_rfl)
theorem wrap : Try.f3.isWrapper Try.prog Rows.fnExactSeatSameRow.wrapper Rows.fnExactSeatSameRow.mainSum := by
 unfold Func.isWrapper; first | (rw [if_pos (by decide +kernel)]; kernel_rfl) | (rw [if_neg (by decide +kernel)]; exact ⟨rfl, rfl⟩)
theorem over : Rows.fnExactSeatSameRow.holds Try.pinned (OpenSpec.ofChange Rows.fnExactSeatSameSpec) :=
 OpenClaim.holds_of_wide 3 Try.f3 rfl rfl rfl rfl rfl rfl rfl ⟨rfl, rfl, rfl, rfl, rfl⟩ rfl rfl rfl rfl rfl named Try.func3 (Whole.facts_of closed)
  inst wrap (fun os started H enc _ => lifted os started H enc)

theorem proved : Rows.FnExactSeatSameSaid := over
#print axioms proved
end Go.Proofs.Ytnijgbinjbikbaa.fnExactSeatSame
