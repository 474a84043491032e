/- For all histories, transactions and writes of the law's own types that the law takes (a bounded size), WorkPut of the program answers as the specification's WorkPut, leaves its arguments as they were, answers alike a second time, and its answer owns its memory. No conditions. -/
import Derived.Test.YtbeklnhngjmpiaaGreatRows
import Derived.Test.YtbeklnhngjmpiaaGreatWhole
import Derived.Test.YtbeklnhngjmpiaaGreatA6
import Derived.Test.YtbeklnhngjmpiaaGreatArWork
import Derived.Test.YtbeklnhngjmpiaaGreatX3g
import Derived.Deep.DeepCutAuto
import Derived.WalkKit
import Derived.ProofKit
import Derived.OpenShut
import Derived.ShutString
import Derived.ChangeOld
import Derived.Below
namespace Go.Proofs.YtbeklnhngjmpiaaGreat.fnExactWorkPut
open Go.ChangeShapes Go.WideShapes Go.ChangeAt Go.RowKit
open Go.ChangeMaps (open_string shut_string)
set_option linter.unusedVariables false

set_option maxRecDepth 100000 in
set_option maxHeartbeats 1000000 in
theorem walk (z0 : Int) (A0 : Option Addr) (c0 : Nat) (l0 : List V) (z1 : Int) (A1 : Option Addr) (c1 : Nat) (l1 : List X) (x2 : X) (w : World) (hz0 : FitI z0) (hc0 : l0.length ≤ c0) (hm0 : c0 ≤ maxLen) (hf0 : FitVs l0) (hr0 : RdG w w.heap.size A0 l0) (hz1 : FitI z1) (hc1 : l1.length ≤ c1) (hm1 : c1 ≤ maxLen) (hf1 : FitXs l1) (hr1 : RdG w w.heap.size A1 l1) (hf2 : FitX x2) :
    Calls Tryz.prog 4 #[.agg #[.int .i64 z0, .slice A0 l0.length c0], .agg #[.int .i64 z1, .slice A1 l1.length c1], .agg #[.string x2.k, .int .i64 x2.n, .bool x2.g]] w fun e w' => e = .returned (.bool true) ∧ Below w.heap.size w w' := by
  have htl0 := totalV_len l0
  by_cases ht0 : (totalV l0 : Int) ≤ 1048576
  rotate_left
  · have H0 := Lib.hid (szR_neg (left := 1048576) (k := totalV l0) (by omega))
    go_enter Tryz.func4, Tryz.ntmps4
    have hb_t1 := below_alloc (Below.refl _ w) (.cells #[.int .i64 z0, .slice A0 l0.length c0] 24)
    have B0_t1 := blkA w #[.int .i64 z0, .slice A0 l0.length c0] 24
    have hz_t1 : (w.alloc (.cells #[.int .i64 z0, .slice A0 l0.length c0] 24)).heap.size = w.heap.size + 1 := World.size_alloc _ _
    have hw_t2 := hb_t1
    have hs_t2 := hb_t1.size
    have hb_t3 := below_alloc (Below.refl _ (w.alloc (.cells #[.int .i64 z0, .slice A0 l0.length c0] 24))) (.cells #[.int .i64 z1, .slice A1 l1.length c1] 27)
    have B1_t3 := blkA (w.alloc (.cells #[.int .i64 z0, .slice A0 l0.length c0] 24)) #[.int .i64 z1, .slice A1 l1.length c1] 27
    simp only [World.size_alloc] at B1_t3
    have hz_t3 : ((w.alloc (.cells #[.int .i64 z0, .slice A0 l0.length c0] 24)).alloc (.cells #[.int .i64 z1, .slice A1 l1.length c1] 27)).heap.size = (w.alloc (.cells #[.int .i64 z0, .slice A0 l0.length c0] 24)).heap.size + 1 := World.size_alloc _ _
    have B0_t4 := B0_t1.next hb_t3
    clear B0_t1
    have hw_t4 := below_next hw_t2 hb_t3
    have hs_t4 := hb_t3.size
    have hb_t5 := below_alloc (Below.refl _ ((w.alloc (.cells #[.int .i64 z0, .slice A0 l0.length c0] 24)).alloc (.cells #[.int .i64 z1, .slice A1 l1.length c1] 27))) (.cells #[.string x2.k, .int .i64 x2.n, .bool x2.g] 48)
    have B2_t5 := blkA ((w.alloc (.cells #[.int .i64 z0, .slice A0 l0.length c0] 24)).alloc (.cells #[.int .i64 z1, .slice A1 l1.length c1] 27)) #[.string x2.k, .int .i64 x2.n, .bool x2.g] 48
    simp only [World.size_alloc] at B2_t5
    have hz_t5 : (((w.alloc (.cells #[.int .i64 z0, .slice A0 l0.length c0] 24)).alloc (.cells #[.int .i64 z1, .slice A1 l1.length c1] 27)).alloc (.cells #[.string x2.k, .int .i64 x2.n, .bool x2.g] 48)).heap.size = ((w.alloc (.cells #[.int .i64 z0, .slice A0 l0.length c0] 24)).alloc (.cells #[.int .i64 z1, .slice A1 l1.length c1] 27)).heap.size + 1 := World.size_alloc _ _
    have B0_t6 := B0_t4.next hb_t5
    clear B0_t4
    have B1_t6 := B1_t3.next hb_t5
    clear B1_t3
    have hw_t6 := below_next hw_t4 hb_t5
    have hs_t6 := hb_t5.size
    have qB00 : (((w.alloc (.cells #[.int .i64 z0, .slice A0 l0.length c0] 24)).alloc (.cells #[.int .i64 z1, .slice A1 l1.length c1] 27)).alloc (.cells #[.string x2.k, .int .i64 x2.n, .bool x2.g] 48)).cell? ⟨w.heap.size, 0, none⟩ = some (.int .i64 z0) := by rw [B0_t6.cell]; rfl
    have qB01 : (((w.alloc (.cells #[.int .i64 z0, .slice A0 l0.length c0] 24)).alloc (.cells #[.int .i64 z1, .slice A1 l1.length c1] 27)).alloc (.cells #[.string x2.k, .int .i64 x2.n, .bool x2.g] 48)).cell? ⟨w.heap.size, 1, none⟩ = some (.slice A0 l0.length c0) := by rw [B0_t6.cell]; rfl
    have qB10 : (((w.alloc (.cells #[.int .i64 z0, .slice A0 l0.length c0] 24)).alloc (.cells #[.int .i64 z1, .slice A1 l1.length c1] 27)).alloc (.cells #[.string x2.k, .int .i64 x2.n, .bool x2.g] 48)).cell? ⟨w.heap.size + 1, 0, none⟩ = some (.int .i64 z1) := by rw [B1_t6.cell]; rfl
    have qB11 : (((w.alloc (.cells #[.int .i64 z0, .slice A0 l0.length c0] 24)).alloc (.cells #[.int .i64 z1, .slice A1 l1.length c1] 27)).alloc (.cells #[.string x2.k, .int .i64 x2.n, .bool x2.g] 48)).cell? ⟨w.heap.size + 1, 1, none⟩ = some (.slice A1 l1.length c1) := by rw [B1_t6.cell]; rfl
    have qB20 : (((w.alloc (.cells #[.int .i64 z0, .slice A0 l0.length c0] 24)).alloc (.cells #[.int .i64 z1, .slice A1 l1.length c1] 27)).alloc (.cells #[.string x2.k, .int .i64 x2.n, .bool x2.g] 48)).cell? ⟨w.heap.size + 2, 0, none⟩ = some (.string x2.k) := by rw [B2_t5.cell]; rfl
    have qB21 : (((w.alloc (.cells #[.int .i64 z0, .slice A0 l0.length c0] 24)).alloc (.cells #[.int .i64 z1, .slice A1 l1.length c1] 27)).alloc (.cells #[.string x2.k, .int .i64 x2.n, .bool x2.g] 48)).cell? ⟨w.heap.size + 2, 1, none⟩ = some (.int .i64 x2.n) := by rw [B2_t5.cell]; rfl
    have qB22 : (((w.alloc (.cells #[.int .i64 z0, .slice A0 l0.length c0] 24)).alloc (.cells #[.int .i64 z1, .slice A1 l1.length c1] 27)).alloc (.cells #[.string x2.k, .int .i64 x2.n, .bool x2.g] 48)).cell? ⟨w.heap.size + 2, 2, none⟩ = some (.bool x2.g) := by rw [B2_t5.cell]; rfl
    go_wp2_with fail
    clear qB00 qB01 qB10 qB11 qB20 qB21 qB22
    refine (szVers_c z0 A0 c0 l0 1048576 _ hf0 hc0 hm0 (by omega) (by omega) ((hr0.below hw_t6).more hw_t6.size)).mono ?_
    rintro e w1 ⟨rfl, hb1⟩
    rw [H0.out]
    have B0_t7 := B0_t6.next hb1
    clear B0_t6
    have B1_t7 := B1_t6.next hb1
    clear B1_t6
    have B2_t7 := B2_t5.next hb1
    clear B2_t5
    have hw_t7 := below_next hw_t6 hb1
    have hs_t7 := hb1.size
    go_wp2
    go_ret
    exact ⟨rfl, hw_t7⟩
  obtain ⟨L0, H0, hL0, hL0x⟩ : ∃ L : Int, Hid (szR 1048576 (totalV l0) = L) ∧ 0 ≤ L ∧ L ≤ 1048576 := ⟨_, Lib.hid rfl, by rw [szR_pos ht0]; omega, by rw [szR_pos ht0]; omega⟩
  have hlen0 : l0.length ≤ 1048576 := by omega
  clear ht0 htl0
  have htl1 := totalX_len l1
  by_cases ht1 : (totalX l1 : Int) ≤ L0
  rotate_left
  · have H1 := Lib.hid (szR_neg (left := L0) (k := totalX l1) (by omega))
    go_enter Tryz.func4, Tryz.ntmps4
    have hb_t1 := below_alloc (Below.refl _ w) (.cells #[.int .i64 z0, .slice A0 l0.length c0] 24)
    have B0_t1 := blkA w #[.int .i64 z0, .slice A0 l0.length c0] 24
    have hz_t1 : (w.alloc (.cells #[.int .i64 z0, .slice A0 l0.length c0] 24)).heap.size = w.heap.size + 1 := World.size_alloc _ _
    have hw_t2 := hb_t1
    have hs_t2 := hb_t1.size
    have hb_t3 := below_alloc (Below.refl _ (w.alloc (.cells #[.int .i64 z0, .slice A0 l0.length c0] 24))) (.cells #[.int .i64 z1, .slice A1 l1.length c1] 27)
    have B1_t3 := blkA (w.alloc (.cells #[.int .i64 z0, .slice A0 l0.length c0] 24)) #[.int .i64 z1, .slice A1 l1.length c1] 27
    simp only [World.size_alloc] at B1_t3
    have hz_t3 : ((w.alloc (.cells #[.int .i64 z0, .slice A0 l0.length c0] 24)).alloc (.cells #[.int .i64 z1, .slice A1 l1.length c1] 27)).heap.size = (w.alloc (.cells #[.int .i64 z0, .slice A0 l0.length c0] 24)).heap.size + 1 := World.size_alloc _ _
    have B0_t4 := B0_t1.next hb_t3
    clear B0_t1
    have hw_t4 := below_next hw_t2 hb_t3
    have hs_t4 := hb_t3.size
    have hb_t5 := below_alloc (Below.refl _ ((w.alloc (.cells #[.int .i64 z0, .slice A0 l0.length c0] 24)).alloc (.cells #[.int .i64 z1, .slice A1 l1.length c1] 27))) (.cells #[.string x2.k, .int .i64 x2.n, .bool x2.g] 48)
    have B2_t5 := blkA ((w.alloc (.cells #[.int .i64 z0, .slice A0 l0.length c0] 24)).alloc (.cells #[.int .i64 z1, .slice A1 l1.length c1] 27)) #[.string x2.k, .int .i64 x2.n, .bool x2.g] 48
    simp only [World.size_alloc] at B2_t5
    have hz_t5 : (((w.alloc (.cells #[.int .i64 z0, .slice A0 l0.length c0] 24)).alloc (.cells #[.int .i64 z1, .slice A1 l1.length c1] 27)).alloc (.cells #[.string x2.k, .int .i64 x2.n, .bool x2.g] 48)).heap.size = ((w.alloc (.cells #[.int .i64 z0, .slice A0 l0.length c0] 24)).alloc (.cells #[.int .i64 z1, .slice A1 l1.length c1] 27)).heap.size + 1 := World.size_alloc _ _
    have B0_t6 := B0_t4.next hb_t5
    clear B0_t4
    have B1_t6 := B1_t3.next hb_t5
    clear B1_t3
    have hw_t6 := below_next hw_t4 hb_t5
    have hs_t6 := hb_t5.size
    have qB00 : (((w.alloc (.cells #[.int .i64 z0, .slice A0 l0.length c0] 24)).alloc (.cells #[.int .i64 z1, .slice A1 l1.length c1] 27)).alloc (.cells #[.string x2.k, .int .i64 x2.n, .bool x2.g] 48)).cell? ⟨w.heap.size, 0, none⟩ = some (.int .i64 z0) := by rw [B0_t6.cell]; rfl
    have qB01 : (((w.alloc (.cells #[.int .i64 z0, .slice A0 l0.length c0] 24)).alloc (.cells #[.int .i64 z1, .slice A1 l1.length c1] 27)).alloc (.cells #[.string x2.k, .int .i64 x2.n, .bool x2.g] 48)).cell? ⟨w.heap.size, 1, none⟩ = some (.slice A0 l0.length c0) := by rw [B0_t6.cell]; rfl
    have qB10 : (((w.alloc (.cells #[.int .i64 z0, .slice A0 l0.length c0] 24)).alloc (.cells #[.int .i64 z1, .slice A1 l1.length c1] 27)).alloc (.cells #[.string x2.k, .int .i64 x2.n, .bool x2.g] 48)).cell? ⟨w.heap.size + 1, 0, none⟩ = some (.int .i64 z1) := by rw [B1_t6.cell]; rfl
    have qB11 : (((w.alloc (.cells #[.int .i64 z0, .slice A0 l0.length c0] 24)).alloc (.cells #[.int .i64 z1, .slice A1 l1.length c1] 27)).alloc (.cells #[.string x2.k, .int .i64 x2.n, .bool x2.g] 48)).cell? ⟨w.heap.size + 1, 1, none⟩ = some (.slice A1 l1.length c1) := by rw [B1_t6.cell]; rfl
    have qB20 : (((w.alloc (.cells #[.int .i64 z0, .slice A0 l0.length c0] 24)).alloc (.cells #[.int .i64 z1, .slice A1 l1.length c1] 27)).alloc (.cells #[.string x2.k, .int .i64 x2.n, .bool x2.g] 48)).cell? ⟨w.heap.size + 2, 0, none⟩ = some (.string x2.k) := by rw [B2_t5.cell]; rfl
    have qB21 : (((w.alloc (.cells #[.int .i64 z0, .slice A0 l0.length c0] 24)).alloc (.cells #[.int .i64 z1, .slice A1 l1.length c1] 27)).alloc (.cells #[.string x2.k, .int .i64 x2.n, .bool x2.g] 48)).cell? ⟨w.heap.size + 2, 1, none⟩ = some (.int .i64 x2.n) := by rw [B2_t5.cell]; rfl
    have qB22 : (((w.alloc (.cells #[.int .i64 z0, .slice A0 l0.length c0] 24)).alloc (.cells #[.int .i64 z1, .slice A1 l1.length c1] 27)).alloc (.cells #[.string x2.k, .int .i64 x2.n, .bool x2.g] 48)).cell? ⟨w.heap.size + 2, 2, none⟩ = some (.bool x2.g) := by rw [B2_t5.cell]; rfl
    go_wp2_with fail
    clear qB00 qB01 qB10 qB11 qB20 qB21 qB22
    refine (szVers_c z0 A0 c0 l0 1048576 _ hf0 hc0 hm0 (by omega) (by omega) ((hr0.below hw_t6).more hw_t6.size)).mono ?_
    rintro e w1 ⟨rfl, hb1⟩
    rw [H0.out]
    have B0_t7 := B0_t6.next hb1
    clear B0_t6
    have B1_t7 := B1_t6.next hb1
    clear B1_t6
    have B2_t7 := B2_t5.next hb1
    clear B2_t5
    have hw_t7 := below_next hw_t6 hb1
    have hs_t7 := hb1.size
    have qB00 : w1.cell? ⟨w.heap.size, 0, none⟩ = some (.int .i64 z0) := by rw [B0_t7.cell]; rfl
    have qB01 : w1.cell? ⟨w.heap.size, 1, none⟩ = some (.slice A0 l0.length c0) := by rw [B0_t7.cell]; rfl
    have qB10 : w1.cell? ⟨w.heap.size + 1, 0, none⟩ = some (.int .i64 z1) := by rw [B1_t7.cell]; rfl
    have qB11 : w1.cell? ⟨w.heap.size + 1, 1, none⟩ = some (.slice A1 l1.length c1) := by rw [B1_t7.cell]; rfl
    have qB20 : w1.cell? ⟨w.heap.size + 2, 0, none⟩ = some (.string x2.k) := by rw [B2_t7.cell]; rfl
    have qB21 : w1.cell? ⟨w.heap.size + 2, 1, none⟩ = some (.int .i64 x2.n) := by rw [B2_t7.cell]; rfl
    have qB22 : w1.cell? ⟨w.heap.size + 2, 2, none⟩ = some (.bool x2.g) := by rw [B2_t7.cell]; rfl
    go_wp2_with fail
    clear qB00 qB01 qB10 qB11 qB20 qB21 qB22
    refine (szWork_c z1 A1 c1 l1 L0 _ hf1 hc1 hm1 (by omega) (by omega) ((hr1.below hw_t7).more hw_t7.size)).mono ?_
    rintro e w2 ⟨rfl, hb2⟩
    rw [H1.out]
    have B0_t8 := B0_t7.next hb2
    clear B0_t7
    have B1_t8 := B1_t7.next hb2
    clear B1_t7
    have B2_t8 := B2_t7.next hb2
    clear B2_t7
    have hw_t8 := below_next hw_t7 hb2
    have hs_t8 := hb2.size
    go_wp2
    go_ret
    exact ⟨rfl, hw_t8⟩
  obtain ⟨L1, H1, hL1, hL1x⟩ : ∃ L : Int, Hid (szR L0 (totalX l1) = L) ∧ 0 ≤ L ∧ L ≤ 1048576 := ⟨_, Lib.hid rfl, by rw [szR_pos ht1]; omega, by rw [szR_pos ht1]; omega⟩
  have hlen1 : l1.length ≤ 1048576 := by omega
  clear ht1 htl1
  by_cases ht2 : ((x2.k.size : Nat) : Int) ≤ L1
  rotate_left
  · have H2 := Lib.hid (szR_neg (left := L1) (k := x2.k.size) (by omega))
    go_enter Tryz.func4, Tryz.ntmps4
    have hb_t1 := below_alloc (Below.refl _ w) (.cells #[.int .i64 z0, .slice A0 l0.length c0] 24)
    have B0_t1 := blkA w #[.int .i64 z0, .slice A0 l0.length c0] 24
    have hz_t1 : (w.alloc (.cells #[.int .i64 z0, .slice A0 l0.length c0] 24)).heap.size = w.heap.size + 1 := World.size_alloc _ _
    have hw_t2 := hb_t1
    have hs_t2 := hb_t1.size
    have hb_t3 := below_alloc (Below.refl _ (w.alloc (.cells #[.int .i64 z0, .slice A0 l0.length c0] 24))) (.cells #[.int .i64 z1, .slice A1 l1.length c1] 27)
    have B1_t3 := blkA (w.alloc (.cells #[.int .i64 z0, .slice A0 l0.length c0] 24)) #[.int .i64 z1, .slice A1 l1.length c1] 27
    simp only [World.size_alloc] at B1_t3
    have hz_t3 : ((w.alloc (.cells #[.int .i64 z0, .slice A0 l0.length c0] 24)).alloc (.cells #[.int .i64 z1, .slice A1 l1.length c1] 27)).heap.size = (w.alloc (.cells #[.int .i64 z0, .slice A0 l0.length c0] 24)).heap.size + 1 := World.size_alloc _ _
    have B0_t4 := B0_t1.next hb_t3
    clear B0_t1
    have hw_t4 := below_next hw_t2 hb_t3
    have hs_t4 := hb_t3.size
    have hb_t5 := below_alloc (Below.refl _ ((w.alloc (.cells #[.int .i64 z0, .slice A0 l0.length c0] 24)).alloc (.cells #[.int .i64 z1, .slice A1 l1.length c1] 27))) (.cells #[.string x2.k, .int .i64 x2.n, .bool x2.g] 48)
    have B2_t5 := blkA ((w.alloc (.cells #[.int .i64 z0, .slice A0 l0.length c0] 24)).alloc (.cells #[.int .i64 z1, .slice A1 l1.length c1] 27)) #[.string x2.k, .int .i64 x2.n, .bool x2.g] 48
    simp only [World.size_alloc] at B2_t5
    have hz_t5 : (((w.alloc (.cells #[.int .i64 z0, .slice A0 l0.length c0] 24)).alloc (.cells #[.int .i64 z1, .slice A1 l1.length c1] 27)).alloc (.cells #[.string x2.k, .int .i64 x2.n, .bool x2.g] 48)).heap.size = ((w.alloc (.cells #[.int .i64 z0, .slice A0 l0.length c0] 24)).alloc (.cells #[.int .i64 z1, .slice A1 l1.length c1] 27)).heap.size + 1 := World.size_alloc _ _
    have B0_t6 := B0_t4.next hb_t5
    clear B0_t4
    have B1_t6 := B1_t3.next hb_t5
    clear B1_t3
    have hw_t6 := below_next hw_t4 hb_t5
    have hs_t6 := hb_t5.size
    have qB00 : (((w.alloc (.cells #[.int .i64 z0, .slice A0 l0.length c0] 24)).alloc (.cells #[.int .i64 z1, .slice A1 l1.length c1] 27)).alloc (.cells #[.string x2.k, .int .i64 x2.n, .bool x2.g] 48)).cell? ⟨w.heap.size, 0, none⟩ = some (.int .i64 z0) := by rw [B0_t6.cell]; rfl
    have qB01 : (((w.alloc (.cells #[.int .i64 z0, .slice A0 l0.length c0] 24)).alloc (.cells #[.int .i64 z1, .slice A1 l1.length c1] 27)).alloc (.cells #[.string x2.k, .int .i64 x2.n, .bool x2.g] 48)).cell? ⟨w.heap.size, 1, none⟩ = some (.slice A0 l0.length c0) := by rw [B0_t6.cell]; rfl
    have qB10 : (((w.alloc (.cells #[.int .i64 z0, .slice A0 l0.length c0] 24)).alloc (.cells #[.int .i64 z1, .slice A1 l1.length c1] 27)).alloc (.cells #[.string x2.k, .int .i64 x2.n, .bool x2.g] 48)).cell? ⟨w.heap.size + 1, 0, none⟩ = some (.int .i64 z1) := by rw [B1_t6.cell]; rfl
    have qB11 : (((w.alloc (.cells #[.int .i64 z0, .slice A0 l0.length c0] 24)).alloc (.cells #[.int .i64 z1, .slice A1 l1.length c1] 27)).alloc (.cells #[.string x2.k, .int .i64 x2.n, .bool x2.g] 48)).cell? ⟨w.heap.size + 1, 1, none⟩ = some (.slice A1 l1.length c1) := by rw [B1_t6.cell]; rfl
    have qB20 : (((w.alloc (.cells #[.int .i64 z0, .slice A0 l0.length c0] 24)).alloc (.cells #[.int .i64 z1, .slice A1 l1.length c1] 27)).alloc (.cells #[.string x2.k, .int .i64 x2.n, .bool x2.g] 48)).cell? ⟨w.heap.size + 2, 0, none⟩ = some (.string x2.k) := by rw [B2_t5.cell]; rfl
    have qB21 : (((w.alloc (.cells #[.int .i64 z0, .slice A0 l0.length c0] 24)).alloc (.cells #[.int .i64 z1, .slice A1 l1.length c1] 27)).alloc (.cells #[.string x2.k, .int .i64 x2.n, .bool x2.g] 48)).cell? ⟨w.heap.size + 2, 1, none⟩ = some (.int .i64 x2.n) := by rw [B2_t5.cell]; rfl
    have qB22 : (((w.alloc (.cells #[.int .i64 z0, .slice A0 l0.length c0] 24)).alloc (.cells #[.int .i64 z1, .slice A1 l1.length c1] 27)).alloc (.cells #[.string x2.k, .int .i64 x2.n, .bool x2.g] 48)).cell? ⟨w.heap.size + 2, 2, none⟩ = some (.bool x2.g) := by rw [B2_t5.cell]; rfl
    go_wp2_with fail
    clear qB00 qB01 qB10 qB11 qB20 qB21 qB22
    refine (szVers_c z0 A0 c0 l0 1048576 _ hf0 hc0 hm0 (by omega) (by omega) ((hr0.below hw_t6).more hw_t6.size)).mono ?_
    rintro e w1 ⟨rfl, hb1⟩
    rw [H0.out]
    have B0_t7 := B0_t6.next hb1
    clear B0_t6
    have B1_t7 := B1_t6.next hb1
    clear B1_t6
    have B2_t7 := B2_t5.next hb1
    clear B2_t5
    have hw_t7 := below_next hw_t6 hb1
    have hs_t7 := hb1.size
    have qB00 : w1.cell? ⟨w.heap.size, 0, none⟩ = some (.int .i64 z0) := by rw [B0_t7.cell]; rfl
    have qB01 : w1.cell? ⟨w.heap.size, 1, none⟩ = some (.slice A0 l0.length c0) := by rw [B0_t7.cell]; rfl
    have qB10 : w1.cell? ⟨w.heap.size + 1, 0, none⟩ = some (.int .i64 z1) := by rw [B1_t7.cell]; rfl
    have qB11 : w1.cell? ⟨w.heap.size + 1, 1, none⟩ = some (.slice A1 l1.length c1) := by rw [B1_t7.cell]; rfl
    have qB20 : w1.cell? ⟨w.heap.size + 2, 0, none⟩ = some (.string x2.k) := by rw [B2_t7.cell]; rfl
    have qB21 : w1.cell? ⟨w.heap.size + 2, 1, none⟩ = some (.int .i64 x2.n) := by rw [B2_t7.cell]; rfl
    have qB22 : w1.cell? ⟨w.heap.size + 2, 2, none⟩ = some (.bool x2.g) := by rw [B2_t7.cell]; rfl
    go_wp2_with fail
    clear qB00 qB01 qB10 qB11 qB20 qB21 qB22
    refine (szWork_c z1 A1 c1 l1 L0 _ hf1 hc1 hm1 (by omega) (by omega) ((hr1.below hw_t7).more hw_t7.size)).mono ?_
    rintro e w2 ⟨rfl, hb2⟩
    rw [H1.out]
    have B0_t8 := B0_t7.next hb2
    clear B0_t7
    have B1_t8 := B1_t7.next hb2
    clear B1_t7
    have B2_t8 := B2_t7.next hb2
    clear B2_t7
    have hw_t8 := below_next hw_t7 hb2
    have hs_t8 := hb2.size
    have qB00 : w2.cell? ⟨w.heap.size, 0, none⟩ = some (.int .i64 z0) := by rw [B0_t8.cell]; rfl
    have qB01 : w2.cell? ⟨w.heap.size, 1, none⟩ = some (.slice A0 l0.length c0) := by rw [B0_t8.cell]; rfl
    have qB10 : w2.cell? ⟨w.heap.size + 1, 0, none⟩ = some (.int .i64 z1) := by rw [B1_t8.cell]; rfl
    have qB11 : w2.cell? ⟨w.heap.size + 1, 1, none⟩ = some (.slice A1 l1.length c1) := by rw [B1_t8.cell]; rfl
    have qB20 : w2.cell? ⟨w.heap.size + 2, 0, none⟩ = some (.string x2.k) := by rw [B2_t8.cell]; rfl
    have qB21 : w2.cell? ⟨w.heap.size + 2, 1, none⟩ = some (.int .i64 x2.n) := by rw [B2_t8.cell]; rfl
    have qB22 : w2.cell? ⟨w.heap.size + 2, 2, none⟩ = some (.bool x2.g) := by rw [B2_t8.cell]; rfl
    go_wp2_with fail
    clear qB00 qB01 qB10 qB11 qB20 qB21 qB22
    refine (szWrite_c x2 L1 _ hf2.1 (by omega) (by omega)).mono ?_
    rintro e w3 ⟨rfl, hb3⟩
    rw [H2.out]
    have B0_t9 := B0_t8.next hb3
    clear B0_t8
    have B1_t9 := B1_t8.next hb3
    clear B1_t8
    have B2_t9 := B2_t8.next hb3
    clear B2_t8
    have hw_t9 := below_next hw_t8 hb3
    have hs_t9 := hb3.size
    go_wp2
    go_ret
    exact ⟨rfl, hw_t9⟩
  obtain ⟨L2, H2, hL2, hL2x⟩ : ∃ L : Int, Hid (szR L1 x2.k.size = L) ∧ 0 ≤ L ∧ L ≤ 1048576 := ⟨_, Lib.hid rfl, by rw [szR_pos ht2]; omega, by rw [szR_pos ht2]; omega⟩
  clear ht2
  have hvl0 : (wputW z0 l0 z1 l1 x2).length ≤ 1048577 := wputW_length z0 l0 z1 l1 x2 hlen1
  obtain ⟨vz0, HZ0⟩ : ∃ x, Hid (wputA z0 l0 z1 l1 = x) := ⟨_, Lib.hid rfl⟩
  obtain ⟨vl0, HV0⟩ : ∃ x, Hid (wputW z0 l0 z1 l1 x2 = x) := ⟨_, Lib.hid rfl⟩
  rw [HV0.out] at hvl0
  have HE0 := Lib.hid (sameW_refl vz0 vl0)
  obtain ⟨vb1, HV1⟩ : ∃ x, Hid (wputC z0 l0 z1 l1 x2 = x) := ⟨_, Lib.hid rfl⟩
  have HA0 := Lib.hid (sameB_refl z0 l0)
  have HA1 := Lib.hid (sameW_refl z1 l1)
  go_enter Tryz.func4, Tryz.ntmps4
  have hb_t1 := below_alloc (Below.refl _ w) (.cells #[.int .i64 z0, .slice A0 l0.length c0] 24)
  have B0_t1 := blkA w #[.int .i64 z0, .slice A0 l0.length c0] 24
  have hz_t1 : (w.alloc (.cells #[.int .i64 z0, .slice A0 l0.length c0] 24)).heap.size = w.heap.size + 1 := World.size_alloc _ _
  have hw_t2 := hb_t1
  have hs_t2 := hb_t1.size
  have hb_t3 := below_alloc (Below.refl _ (w.alloc (.cells #[.int .i64 z0, .slice A0 l0.length c0] 24))) (.cells #[.int .i64 z1, .slice A1 l1.length c1] 27)
  have B1_t3 := blkA (w.alloc (.cells #[.int .i64 z0, .slice A0 l0.length c0] 24)) #[.int .i64 z1, .slice A1 l1.length c1] 27
  simp only [World.size_alloc] at B1_t3
  have hz_t3 : ((w.alloc (.cells #[.int .i64 z0, .slice A0 l0.length c0] 24)).alloc (.cells #[.int .i64 z1, .slice A1 l1.length c1] 27)).heap.size = (w.alloc (.cells #[.int .i64 z0, .slice A0 l0.length c0] 24)).heap.size + 1 := World.size_alloc _ _
  have B0_t4 := B0_t1.next hb_t3
  clear B0_t1
  have hw_t4 := below_next hw_t2 hb_t3
  have hs_t4 := hb_t3.size
  have hb_t5 := below_alloc (Below.refl _ ((w.alloc (.cells #[.int .i64 z0, .slice A0 l0.length c0] 24)).alloc (.cells #[.int .i64 z1, .slice A1 l1.length c1] 27))) (.cells #[.string x2.k, .int .i64 x2.n, .bool x2.g] 48)
  have B2_t5 := blkA ((w.alloc (.cells #[.int .i64 z0, .slice A0 l0.length c0] 24)).alloc (.cells #[.int .i64 z1, .slice A1 l1.length c1] 27)) #[.string x2.k, .int .i64 x2.n, .bool x2.g] 48
  simp only [World.size_alloc] at B2_t5
  have hz_t5 : (((w.alloc (.cells #[.int .i64 z0, .slice A0 l0.length c0] 24)).alloc (.cells #[.int .i64 z1, .slice A1 l1.length c1] 27)).alloc (.cells #[.string x2.k, .int .i64 x2.n, .bool x2.g] 48)).heap.size = ((w.alloc (.cells #[.int .i64 z0, .slice A0 l0.length c0] 24)).alloc (.cells #[.int .i64 z1, .slice A1 l1.length c1] 27)).heap.size + 1 := World.size_alloc _ _
  have B0_t6 := B0_t4.next hb_t5
  clear B0_t4
  have B1_t6 := B1_t3.next hb_t5
  clear B1_t3
  have hw_t6 := below_next hw_t4 hb_t5
  have hs_t6 := hb_t5.size
  have qB00 : (((w.alloc (.cells #[.int .i64 z0, .slice A0 l0.length c0] 24)).alloc (.cells #[.int .i64 z1, .slice A1 l1.length c1] 27)).alloc (.cells #[.string x2.k, .int .i64 x2.n, .bool x2.g] 48)).cell? ⟨w.heap.size, 0, none⟩ = some (.int .i64 z0) := by rw [B0_t6.cell]; rfl
  have qB01 : (((w.alloc (.cells #[.int .i64 z0, .slice A0 l0.length c0] 24)).alloc (.cells #[.int .i64 z1, .slice A1 l1.length c1] 27)).alloc (.cells #[.string x2.k, .int .i64 x2.n, .bool x2.g] 48)).cell? ⟨w.heap.size, 1, none⟩ = some (.slice A0 l0.length c0) := by rw [B0_t6.cell]; rfl
  have qB10 : (((w.alloc (.cells #[.int .i64 z0, .slice A0 l0.length c0] 24)).alloc (.cells #[.int .i64 z1, .slice A1 l1.length c1] 27)).alloc (.cells #[.string x2.k, .int .i64 x2.n, .bool x2.g] 48)).cell? ⟨w.heap.size + 1, 0, none⟩ = some (.int .i64 z1) := by rw [B1_t6.cell]; rfl
  have qB11 : (((w.alloc (.cells #[.int .i64 z0, .slice A0 l0.length c0] 24)).alloc (.cells #[.int .i64 z1, .slice A1 l1.length c1] 27)).alloc (.cells #[.string x2.k, .int .i64 x2.n, .bool x2.g] 48)).cell? ⟨w.heap.size + 1, 1, none⟩ = some (.slice A1 l1.length c1) := by rw [B1_t6.cell]; rfl
  have qB20 : (((w.alloc (.cells #[.int .i64 z0, .slice A0 l0.length c0] 24)).alloc (.cells #[.int .i64 z1, .slice A1 l1.length c1] 27)).alloc (.cells #[.string x2.k, .int .i64 x2.n, .bool x2.g] 48)).cell? ⟨w.heap.size + 2, 0, none⟩ = some (.string x2.k) := by rw [B2_t5.cell]; rfl
  have qB21 : (((w.alloc (.cells #[.int .i64 z0, .slice A0 l0.length c0] 24)).alloc (.cells #[.int .i64 z1, .slice A1 l1.length c1] 27)).alloc (.cells #[.string x2.k, .int .i64 x2.n, .bool x2.g] 48)).cell? ⟨w.heap.size + 2, 1, none⟩ = some (.int .i64 x2.n) := by rw [B2_t5.cell]; rfl
  have qB22 : (((w.alloc (.cells #[.int .i64 z0, .slice A0 l0.length c0] 24)).alloc (.cells #[.int .i64 z1, .slice A1 l1.length c1] 27)).alloc (.cells #[.string x2.k, .int .i64 x2.n, .bool x2.g] 48)).cell? ⟨w.heap.size + 2, 2, none⟩ = some (.bool x2.g) := by rw [B2_t5.cell]; rfl
  go_wp2_with fail
  clear qB00 qB01 qB10 qB11 qB20 qB21 qB22
  refine (szVers_c z0 A0 c0 l0 1048576 _ hf0 hc0 hm0 (by omega) (by omega) ((hr0.below hw_t6).more hw_t6.size)).mono ?_
  rintro e w1 ⟨rfl, hb1⟩
  rw [H0.out]
  have B0_t7 := B0_t6.next hb1
  clear B0_t6
  have B1_t7 := B1_t6.next hb1
  clear B1_t6
  have B2_t7 := B2_t5.next hb1
  clear B2_t5
  have hw_t7 := below_next hw_t6 hb1
  have hs_t7 := hb1.size
  have qB00 : w1.cell? ⟨w.heap.size, 0, none⟩ = some (.int .i64 z0) := by rw [B0_t7.cell]; rfl
  have qB01 : w1.cell? ⟨w.heap.size, 1, none⟩ = some (.slice A0 l0.length c0) := by rw [B0_t7.cell]; rfl
  have qB10 : w1.cell? ⟨w.heap.size + 1, 0, none⟩ = some (.int .i64 z1) := by rw [B1_t7.cell]; rfl
  have qB11 : w1.cell? ⟨w.heap.size + 1, 1, none⟩ = some (.slice A1 l1.length c1) := by rw [B1_t7.cell]; rfl
  have qB20 : w1.cell? ⟨w.heap.size + 2, 0, none⟩ = some (.string x2.k) := by rw [B2_t7.cell]; rfl
  have qB21 : w1.cell? ⟨w.heap.size + 2, 1, none⟩ = some (.int .i64 x2.n) := by rw [B2_t7.cell]; rfl
  have qB22 : w1.cell? ⟨w.heap.size + 2, 2, none⟩ = some (.bool x2.g) := by rw [B2_t7.cell]; rfl
  go_wp2_with fail
  clear qB00 qB01 qB10 qB11 qB20 qB21 qB22
  refine (szWork_c z1 A1 c1 l1 L0 _ hf1 hc1 hm1 (by omega) (by omega) ((hr1.below hw_t7).more hw_t7.size)).mono ?_
  rintro e w2 ⟨rfl, hb2⟩
  rw [H1.out]
  have B0_t8 := B0_t7.next hb2
  clear B0_t7
  have B1_t8 := B1_t7.next hb2
  clear B1_t7
  have B2_t8 := B2_t7.next hb2
  clear B2_t7
  have hw_t8 := below_next hw_t7 hb2
  have hs_t8 := hb2.size
  have qB00 : w2.cell? ⟨w.heap.size, 0, none⟩ = some (.int .i64 z0) := by rw [B0_t8.cell]; rfl
  have qB01 : w2.cell? ⟨w.heap.size, 1, none⟩ = some (.slice A0 l0.length c0) := by rw [B0_t8.cell]; rfl
  have qB10 : w2.cell? ⟨w.heap.size + 1, 0, none⟩ = some (.int .i64 z1) := by rw [B1_t8.cell]; rfl
  have qB11 : w2.cell? ⟨w.heap.size + 1, 1, none⟩ = some (.slice A1 l1.length c1) := by rw [B1_t8.cell]; rfl
  have qB20 : w2.cell? ⟨w.heap.size + 2, 0, none⟩ = some (.string x2.k) := by rw [B2_t8.cell]; rfl
  have qB21 : w2.cell? ⟨w.heap.size + 2, 1, none⟩ = some (.int .i64 x2.n) := by rw [B2_t8.cell]; rfl
  have qB22 : w2.cell? ⟨w.heap.size + 2, 2, none⟩ = some (.bool x2.g) := by rw [B2_t8.cell]; rfl
  go_wp2_with fail
  clear qB00 qB01 qB10 qB11 qB20 qB21 qB22
  refine (szWrite_c x2 L1 _ hf2.1 (by omega) (by omega)).mono ?_
  rintro e w3 ⟨rfl, hb3⟩
  rw [H2.out]
  have B0_t9 := B0_t8.next hb3
  clear B0_t8
  have B1_t9 := B1_t8.next hb3
  clear B1_t8
  have B2_t9 := B2_t8.next hb3
  clear B2_t8
  have hw_t9 := below_next hw_t8 hb3
  have hs_t9 := hb3.size
  have qB00 : w3.cell? ⟨w.heap.size, 0, none⟩ = some (.int .i64 z0) := by rw [B0_t9.cell]; rfl
  have qB01 : w3.cell? ⟨w.heap.size, 1, none⟩ = some (.slice A0 l0.length c0) := by rw [B0_t9.cell]; rfl
  have qB10 : w3.cell? ⟨w.heap.size + 1, 0, none⟩ = some (.int .i64 z1) := by rw [B1_t9.cell]; rfl
  have qB11 : w3.cell? ⟨w.heap.size + 1, 1, none⟩ = some (.slice A1 l1.length c1) := by rw [B1_t9.cell]; rfl
  have qB20 : w3.cell? ⟨w.heap.size + 2, 0, none⟩ = some (.string x2.k) := by rw [B2_t9.cell]; rfl
  have qB21 : w3.cell? ⟨w.heap.size + 2, 1, none⟩ = some (.int .i64 x2.n) := by rw [B2_t9.cell]; rfl
  have qB22 : w3.cell? ⟨w.heap.size + 2, 2, none⟩ = some (.bool x2.g) := by rw [B2_t9.cell]; rfl
  go_wp2
  clear qB00 qB01 qB10 qB11 qB20 qB21 qB22
  go_cut [8, 9] (fun p q W => ∃ (gW : Nat) (bW : Option Addr) (nW cW : Nat), p = .pointer (some ⟨gW, 0, none⟩) ∧ q = .int .i64 vb1 ∧ Blk W gW 38 #[.int .i64 vz0, .slice bW nW cW] ∧ OwnG W w3.heap.size (.slice bW nW cW) vl0 ∧ w3.heap.size ≤ gW ∧ (∀ k, (Value.slice bW nW cW).ownBlock = some k → k ≠ gW) ∧ Below w3.heap.size w3 W)
  case first =>
    have hb_t10 : Below w3.heap.size w3 w3.drew := (Below.refl _ _).drew
    have B0_t11 := B0_t9.next hb_t10
    clear B0_t9
    have B1_t11 := B1_t9.next hb_t10
    clear B1_t9
    have B2_t11 := B2_t9.next hb_t10
    clear B2_t9
    have hw_t11 := below_next hw_t9 hb_t10
    have hs_t11 := hb_t10.size
    have hc_t10 := hb_t10
    clear hb_t10
    refine wp_region_held_drew (S := (fun W => W.cell? ⟨w.heap.size, 0, none⟩ = some (.int .i64 z0) ∧ W.cell? ⟨w.heap.size, 1, none⟩ = some (.slice A0 l0.length c0) ∧ W.cell? ⟨w.heap.size + 1, 0, none⟩ = some (.int .i64 z1) ∧ W.cell? ⟨w.heap.size + 1, 1, none⟩ = some (.slice A1 l1.length c1) ∧ W.cell? ⟨w.heap.size + 2, 0, none⟩ = some (.string x2.k) ∧ W.cell? ⟨w.heap.size + 2, 1, none⟩ = some (.int .i64 x2.n) ∧ W.cell? ⟨w.heap.size + 2, 2, none⟩ = some (.bool x2.g))) (by kernel_rfl) ?_ (fun hHeld => ?_)
    focus ((try dsimp only); (exact ⟨by rw [B0_t11.cell]; rfl, by rw [B0_t11.cell]; rfl, by rw [B1_t11.cell]; rfl, by rw [B1_t11.cell]; rfl, by rw [B2_t11.cell]; rfl, by rw [B2_t11.cell]; rfl, by rw [B2_t11.cell]; rfl⟩))
    obtain ⟨wd, HWD⟩ : ∃ wd, Hid (w3.drew = wd) := ⟨_, Lib.hid rfl⟩
    rw [HWD.out] at hHeld hc_t10 B0_t11 B1_t11 B2_t11 hw_t11
    rw [HWD.out]
    (refine tk 0 ?_; try simp only [Act.put, pa, pb, pc])
    (refine tk 2 ?_; try simp only [Act.put, pa, pb, pc])
    (refine tk 4 ?_; try simp only [Act.put, pa, pb, pc])
    refine wpAnyH_ready (rs := [1, 10]) (by kernel_rfl) (by simp) (AllReadyH.cons (by (simp only [ga, gb, gc]; rfl)) (fun K hK => ?_) (AllReadyH.cons (by (simp only [ga, gb, gc]; rfl)) (fun K hK => ?_) AllReadyH.nil))
    · go_simp
      go_at_call 19
      refine (toVers_c z0 A0 c0 l0 _ hc0 hlen0 ((hr0.below hw_t11).more hw_t11.size)).mono ?_
      rintro e w4 ⟨gY0, rfl, Y0_n, ge_Y00, lt_Y00, hb4⟩
      clear ge_Y00 lt_Y00
      have B0_t12 := B0_t11.next hb4
      clear B0_t11
      have B1_t12 := B1_t11.next hb4
      clear B1_t11
      have B2_t12 := B2_t11.next hb4
      clear B2_t11
      have hw_t12 := below_next hw_t11 hb4
      have hs_t12 := hb4.size
      have hcn4 := below_next hc_t10 hb4
      go_wp2_with fail
      refine hK.out _ _ ?_ (fun hHeld => ?_)
      focus ((try dsimp only); (exact ⟨by rw [B0_t12.cell]; rfl, by rw [B0_t12.cell]; rfl, by rw [B1_t12.cell]; rfl, by rw [B1_t12.cell]; rfl, by rw [B2_t12.cell]; rfl, by rw [B2_t12.cell]; rfl, by rw [B2_t12.cell]; rfl⟩))
      clear hK K
      try simp only [Act.put, pa, pb, pc]
      refine wpAnyH_ready (rs := [3, 10]) (by kernel_rfl) (by simp) (AllReadyH.cons (by (simp only [ga, gb, gc]; rfl)) (fun K hK => ?_) (AllReadyH.cons (by (simp only [ga, gb, gc]; rfl)) (fun K hK => ?_) AllReadyH.nil))
      · go_simp
        go_at_call 20
        refine (toWork_c z1 A1 c1 l1 _ hc1 hlen1 ((hr1.below hw_t12).more hw_t12.size)).mono ?_
        rintro e w5 ⟨gY1, rfl, Y1_n, ge_Y10, lt_Y10, hb5⟩
        clear ge_Y10 lt_Y10
        have Y0_t13 := Y0_n.next hb5
        clear Y0_n
        have B0_t13 := B0_t12.next hb5
        clear B0_t12
        have B1_t13 := B1_t12.next hb5
        clear B1_t12
        have B2_t13 := B2_t12.next hb5
        clear B2_t12
        have hw_t13 := below_next hw_t12 hb5
        have hs_t13 := hb5.size
        have hcn5 := below_next hcn4 hb5
        go_wp2_with fail
        refine hK.out _ _ ?_ (fun hHeld => ?_)
        focus ((try dsimp only); (exact ⟨by rw [B0_t13.cell]; rfl, by rw [B0_t13.cell]; rfl, by rw [B1_t13.cell]; rfl, by rw [B1_t13.cell]; rfl, by rw [B2_t13.cell]; rfl, by rw [B2_t13.cell]; rfl, by rw [B2_t13.cell]; rfl⟩))
        clear hK K
        try simp only [Act.put, pa, pb, pc]
        refine wpAnyH_ready (rs := [5, 10]) (by kernel_rfl) (by simp) (AllReadyH.cons (by (simp only [ga, gb, gc]; rfl)) (fun K hK => ?_) (AllReadyH.cons (by (simp only [ga, gb, gc]; rfl)) (fun K hK => ?_) AllReadyH.nil))
        · go_simp
          go_at_call 31
          refine (toWrite_c x2 _).mono ?_
          rintro e w6 ⟨rfl, hb6⟩
          have Y0_t14 := Y0_t13.next hb6
          clear Y0_t13
          have Y1_t14 := Y1_n.next hb6
          clear Y1_n
          have B0_t14 := B0_t13.next hb6
          clear B0_t13
          have B1_t14 := B1_t13.next hb6
          clear B1_t13
          have B2_t14 := B2_t13.next hb6
          clear B2_t13
          have hw_t14 := below_next hw_t13 hb6
          have hs_t14 := hb6.size
          have hcn6 := below_next hcn5 hb6
          go_wp2_with fail
          refine hK.out _ _ ?_ (fun hHeld => ?_)
          focus ((try dsimp only); (exact ⟨by rw [B0_t14.cell]; rfl, by rw [B0_t14.cell]; rfl, by rw [B1_t14.cell]; rfl, by rw [B1_t14.cell]; rfl, by rw [B2_t14.cell]; rfl, by rw [B2_t14.cell]; rfl, by rw [B2_t14.cell]; rfl⟩))
          clear hK K
          try simp only [Act.put, pa, pb, pc]
          refine wpAnyH_ready (rs := [6, 10]) (by kernel_rfl) (by simp) (AllReadyH.cons (by (simp only [ga, gb, gc]; rfl)) (fun K hK => ?_) (AllReadyH.cons (by (simp only [ga, gb, gc]; rfl)) (fun K hK => ?_) AllReadyH.nil))
          · go_simp
            go_at_call 30
            refine (specWorkPutO Y0_t14 Y1_t14 hf0 hf1 hf2 hlen0 hlen1).mono ?_
            rw [HZ0.out, HV0.out, HV1.out]
            rintro e w7 ⟨VW, rfl, W_n, hb7⟩
            obtain ⟨bW, nW, cW, rfl⟩ := W_n.slice
            clear Y0_t14
            clear Y1_t14
            have B0_t15 := B0_t14.next hb7
            clear B0_t14
            have B1_t15 := B1_t14.next hb7
            clear B1_t14
            have B2_t15 := B2_t14.next hb7
            clear B2_t14
            have hw_t15 := below_next hw_t14 hb7
            have hs_t15 := hb7.size
            have hcn7 := below_next hcn6 hb7
            go_wp2_with fail
            refine hK.out _ _ ?_ (fun hHeld => ?_)
            focus ((try dsimp only); (exact ⟨by rw [B0_t15.cell]; rfl, by rw [B0_t15.cell]; rfl, by rw [B1_t15.cell]; rfl, by rw [B1_t15.cell]; rfl, by rw [B2_t15.cell]; rfl, by rw [B2_t15.cell]; rfl, by rw [B2_t15.cell]; rfl⟩))
            clear hK K
            try simp only [Act.put, pa, pb, pc]
            (refine tk 7 ?_; try simp only [Act.put, pa, pb, pc])
            (refine tk 8 ?_; try simp only [Act.put, pa, pb, pc])
            (refine tk 9 ?_; try simp only [Act.put, pa, pb, pc])
            refine rd1 10 (fun K hK => ?_)
            go_simp
            have hbz : Below w7.heap.size w7 (w7.alloc (.cells #[.int .i64 0, .slice none 0 0] 38)) := below_alloc (Below.refl _ _) _
            have B0_z := B0_t15.next hbz
            have B1_z := B1_t15.next hbz
            have B2_z := B2_t15.next hbz
            refine hK.out _ _ ?_ (fun hHeld => ?_)
            focus ((try dsimp only); (exact ⟨by rw [B0_z.cell]; rfl, by rw [B0_z.cell]; rfl, by rw [B1_z.cell]; rfl, by rw [B1_z.cell]; rfl, by rw [B2_z.cell]; rfl, by rw [B2_z.cell]; rfl, by rw [B2_z.cell]; rfl⟩))
            clear hK K
            try simp only [Act.put, pa, pb, pc]
            have By_z := blkA w7 #[.int .i64 0, .slice none 0 0] 38
            have d0 : (w7.alloc (.cells #[.int .i64 0, .slice none 0 0] 38)).cell? ⟨w7.heap.size, 0, none⟩ = some (.int .i64 0) := (by rw [By_z.cell]; rfl)
            have d1 : (w7.alloc (.cells #[.int .i64 0, .slice none 0 0] 38)).cell? ⟨w7.heap.size, 1, none⟩ = some (.slice none 0 0) := (by rw [By_z.cell]; rfl)
            have f0 := By_z.free 0
            have f1 := By_z.free 1
            have HLT : Hid (∀ k, (Value.slice bW nW cW).ownBlock = some k → k < w7.heap.size) := Lib.hid (fun k hk => (W_n.block_lt hk).2)
            have hb_t16 := below_alloc (Below.refl _ w7) (.cells #[.int .i64 vz0, .slice bW nW cW] 38)
            have By_t16 := blkA w7 #[.int .i64 vz0, .slice bW nW cW] 38
            have hz_t16 : (w7.alloc (.cells #[.int .i64 vz0, .slice bW nW cW] 38)).heap.size = w7.heap.size + 1 := World.size_alloc _ _
            have W_t17 := W_n.next hb_t16
            clear W_n
            have B0_t17 := B0_t15.next hb_t16
            clear B0_t15
            have B1_t17 := B1_t15.next hb_t16
            clear B1_t15
            have B2_t17 := B2_t15.next hb_t16
            clear B2_t15
            have hw_t17 := below_next hw_t15 hb_t16
            have hs_t17 := hb_t16.size
            have hcL := below_alloc hcn7 (.cells #[.int .i64 vz0, .slice bW nW cW] 38)
            refine rd1 11 (fun K hK => ?_)
            go_simp
            refine hK.out _ _ ?_ (fun hHeld => ?_)
            focus ((try dsimp only); (exact ⟨by rw [B0_t17.cell]; rfl, by rw [B0_t17.cell]; rfl, by rw [B1_t17.cell]; rfl, by rw [B1_t17.cell]; rfl, by rw [B2_t17.cell]; rfl, by rw [B2_t17.cell]; rfl, by rw [B2_t17.cell]; rfl⟩))
            clear hK K d0 d1 f0 f1 By_z B0_z B1_z B2_z
            try simp only [Act.put, pa, pb, pc]
            (refine tk 12 ?_; try simp only [Act.put, pa, pb, pc])
            refine wpAnyH_done (by kernel_rfl) ?_ _
            go_wp2
            go_meet
            case rel => exact ⟨_, _, _, _, rfl, rfl, By_t16, W_t17.low hcn6.size, hcn7.size, (fun k hk => by have := HLT.out k hk; omega), hcL⟩
          · go_simp
            obtain ⟨yb, HYb⟩ : ∃ yb, Hid (w6.heap.size = yb) := ⟨_, Lib.hid rfl⟩
            have ne_B0 : w.heap.size < yb := by have h1 := B0_t14.lt; have h3 := HYb.out; omega
            have ne_B1 : w.heap.size + 1 < yb := by have h1 := B1_t14.lt; have h3 := HYb.out; omega
            have ne_B2 : w.heap.size + 2 < yb := by have h1 := B2_t14.lt; have h3 := HYb.out; omega
            have GG : Hid (w3.heap.size ≤ yb) := Lib.hid (by have h1 := hcn6.size; have h3 := HYb.out; omega)
            have hcz := below_alloc hcn6 (.cells #[.int .i64 0, .slice none 0 0] 38)
            have hb_t15 := below_alloc (Below.refl _ w6) (.cells #[.int .i64 0, .slice none 0 0] 38)
            have By_t15 := blkA w6 #[.int .i64 0, .slice none 0 0] 38
            have hz_t15 : (w6.alloc (.cells #[.int .i64 0, .slice none 0 0] 38)).heap.size = w6.heap.size + 1 := World.size_alloc _ _
            have Y0_t16 := Y0_t14.next hb_t15
            clear Y0_t14
            have Y1_t16 := Y1_t14.next hb_t15
            clear Y1_t14
            have B0_t16 := B0_t14.next hb_t15
            clear B0_t14
            have B1_t16 := B1_t14.next hb_t15
            clear B1_t14
            have B2_t16 := B2_t14.next hb_t15
            clear B2_t14
            have hw_t16 := below_next hw_t14 hb_t15
            have hs_t16 := hb_t15.size
            refine hK.out _ _ ?_ (fun hHeld => ?_)
            focus ((try dsimp only); (exact ⟨by rw [B0_t16.cell]; rfl, by rw [B0_t16.cell]; rfl, by rw [B1_t16.cell]; rfl, by rw [B1_t16.cell]; rfl, by rw [B2_t16.cell]; rfl, by rw [B2_t16.cell]; rfl, by rw [B2_t16.cell]; rfl⟩))
            clear hK K
            try simp only [Act.put, pa, pb, pc]
            rw [HYb.out] at By_t15
            try rw [HYb.out]
            obtain ⟨we, HWE⟩ : ∃ we, Hid ((w6.alloc (.cells #[.int .i64 0, .slice none 0 0] 38)) = we) := ⟨_, Lib.hid rfl⟩
            rw [HWE.out] at hHeld hcz Y0_t16 Y1_t16 B0_t16 B1_t16 B2_t16 By_t15 hw_t16
            rw [HWE.out]
            refine rd1 6 (fun K hK => ?_)
            go_simp
            go_at_call 30
            have hgl := By_t15.lt
            refine (specWorkPutO Y0_t16 Y1_t16 hf0 hf1 hf2 hlen0 hlen1).mono ?_
            rw [HZ0.out, HV0.out, HV1.out]
            rintro e w7 ⟨VW, rfl, W_n, hb7⟩
            have HNE : Hid (∀ k, VW.ownBlock = some k → k ≠ yb) := Lib.hid (fun k hk => by have := (W_n.block_lt hk).1; omega)
            obtain ⟨bW, nW, cW, rfl⟩ := W_n.slice
            clear Y0_t16
            clear Y1_t16
            have B0_t17 := B0_t16.next hb7
            clear B0_t16
            have B1_t17 := B1_t16.next hb7
            clear B1_t16
            have B2_t17 := B2_t16.next hb7
            clear B2_t16
            have By_t17 := By_t15.next hb7
            clear By_t15
            have hw_t17 := below_next hw_t16 hb7
            have hs_t17 := hb7.size
            have hcn7 := below_next hcz hb7
            go_wp2_with fail
            refine hK.out _ _ ?_ (fun hHeld => ?_)
            focus ((try dsimp only); (exact ⟨by rw [B0_t17.cell]; rfl, by rw [B0_t17.cell]; rfl, by rw [B1_t17.cell]; rfl, by rw [B1_t17.cell]; rfl, by rw [B2_t17.cell]; rfl, by rw [B2_t17.cell]; rfl, by rw [B2_t17.cell]; rfl⟩))
            clear hK K
            try simp only [Act.put, pa, pb, pc]
            (refine tk 7 ?_; try simp only [Act.put, pa, pb, pc])
            (refine tk 8 ?_; try simp only [Act.put, pa, pb, pc])
            (refine tk 9 ?_; try simp only [Act.put, pa, pb, pc])
            have d0 : w7.cell? ⟨yb, 0, none⟩ = some (.int .i64 0) := (by rw [By_t17.cell]; rfl)
            have d1 : w7.cell? ⟨yb, 1, none⟩ = some (.slice none 0 0) := (by rw [By_t17.cell]; rfl)
            have f0 := By_t17.free 0
            have f1 := By_t17.free 1
            have B0_s := (B0_t17.setOther (a := ⟨yb, 0, none⟩) (show w.heap.size ≠ yb from by omega) (.int .i64 vz0)).setOther (a := ⟨yb, 1, none⟩) (show w.heap.size ≠ yb from by omega) (.slice bW nW cW)
            have B1_s := (B1_t17.setOther (a := ⟨yb, 0, none⟩) (show w.heap.size + 1 ≠ yb from by omega) (.int .i64 vz0)).setOther (a := ⟨yb, 1, none⟩) (show w.heap.size + 1 ≠ yb from by omega) (.slice bW nW cW)
            have B2_s := (B2_t17.setOther (a := ⟨yb, 0, none⟩) (show w.heap.size + 2 ≠ yb from by omega) (.int .i64 vz0)).setOther (a := ⟨yb, 1, none⟩) (show w.heap.size + 2 ≠ yb from by omega) (.slice bW nW cW)
            have By_s := (By_t17.set_ 0 (.int .i64 vz0)).set_ 1 (.slice bW nW cW)
            have p_s := (W_n.setCell (a := ⟨yb, 0, none⟩) HNE.out (.int .i64 vz0)).setCell (a := ⟨yb, 1, none⟩) HNE.out (.slice bW nW cW)
            have hcL : Below w3.heap.size w3 ((w7.setCell ⟨yb, 0, none⟩ (.int .i64 vz0)).setCell ⟨yb, 1, none⟩ (.slice bW nW cW)) := (hcn7.setCell (show w3.heap.size ≤ yb from GG.out) _).setCell (show w3.heap.size ≤ yb from GG.out) _
            refine rd1 11 (fun K hK => ?_)
            go_simp
            refine hK.out _ _ ?_ (fun hHeld => ?_)
            focus ((try dsimp only); (exact ⟨by rw [B0_s.cell]; rfl, by rw [B0_s.cell]; rfl, by rw [B1_s.cell]; rfl, by rw [B1_s.cell]; rfl, by rw [B2_s.cell]; rfl, by rw [B2_s.cell]; rfl, by rw [B2_s.cell]; rfl⟩))
            clear hK K d0 d1 f0 f1
            try simp only [Act.put, pa, pb, pc]
            (refine tk 12 ?_; try simp only [Act.put, pa, pb, pc])
            refine wpAnyH_done (by kernel_rfl) ?_ _
            go_wp2
            go_meet
            case rel => exact ⟨_, bW, nW, cW, rfl, rfl, By_s.cast rfl, p_s.low hcz.size, GG.out, HNE.out, hcL⟩
        · go_simp
          obtain ⟨yb, HYb⟩ : ∃ yb, Hid (w5.heap.size = yb) := ⟨_, Lib.hid rfl⟩
          have ne_B0 : w.heap.size < yb := by have h1 := B0_t13.lt; have h3 := HYb.out; omega
          have ne_B1 : w.heap.size + 1 < yb := by have h1 := B1_t13.lt; have h3 := HYb.out; omega
          have ne_B2 : w.heap.size + 2 < yb := by have h1 := B2_t13.lt; have h3 := HYb.out; omega
          have GG : Hid (w3.heap.size ≤ yb) := Lib.hid (by have h1 := hcn5.size; have h3 := HYb.out; omega)
          have hcz := below_alloc hcn5 (.cells #[.int .i64 0, .slice none 0 0] 38)
          have hb_t14 := below_alloc (Below.refl _ w5) (.cells #[.int .i64 0, .slice none 0 0] 38)
          have By_t14 := blkA w5 #[.int .i64 0, .slice none 0 0] 38
          have hz_t14 : (w5.alloc (.cells #[.int .i64 0, .slice none 0 0] 38)).heap.size = w5.heap.size + 1 := World.size_alloc _ _
          have Y0_t15 := Y0_t13.next hb_t14
          clear Y0_t13
          have Y1_t15 := Y1_n.next hb_t14
          clear Y1_n
          have B0_t15 := B0_t13.next hb_t14
          clear B0_t13
          have B1_t15 := B1_t13.next hb_t14
          clear B1_t13
          have B2_t15 := B2_t13.next hb_t14
          clear B2_t13
          have hw_t15 := below_next hw_t13 hb_t14
          have hs_t15 := hb_t14.size
          refine hK.out _ _ ?_ (fun hHeld => ?_)
          focus ((try dsimp only); (exact ⟨by rw [B0_t15.cell]; rfl, by rw [B0_t15.cell]; rfl, by rw [B1_t15.cell]; rfl, by rw [B1_t15.cell]; rfl, by rw [B2_t15.cell]; rfl, by rw [B2_t15.cell]; rfl, by rw [B2_t15.cell]; rfl⟩))
          clear hK K
          try simp only [Act.put, pa, pb, pc]
          rw [HYb.out] at By_t14
          try rw [HYb.out]
          obtain ⟨we, HWE⟩ : ∃ we, Hid ((w5.alloc (.cells #[.int .i64 0, .slice none 0 0] 38)) = we) := ⟨_, Lib.hid rfl⟩
          rw [HWE.out] at hHeld hcz Y0_t15 Y1_t15 B0_t15 B1_t15 B2_t15 By_t14 hw_t15
          rw [HWE.out]
          refine rd1 5 (fun K hK => ?_)
          go_simp
          go_at_call 31
          refine (toWrite_c x2 _).mono ?_
          rintro e w6 ⟨rfl, hb6⟩
          have Y0_t16 := Y0_t15.next hb6
          clear Y0_t15
          have Y1_t16 := Y1_t15.next hb6
          clear Y1_t15
          have B0_t16 := B0_t15.next hb6
          clear B0_t15
          have B1_t16 := B1_t15.next hb6
          clear B1_t15
          have B2_t16 := B2_t15.next hb6
          clear B2_t15
          have By_t16 := By_t14.next hb6
          clear By_t14
          have hw_t16 := below_next hw_t15 hb6
          have hs_t16 := hb6.size
          have hcn6 := below_next hcz hb6
          go_wp2_with fail
          refine hK.out _ _ ?_ (fun hHeld => ?_)
          focus ((try dsimp only); (exact ⟨by rw [B0_t16.cell]; rfl, by rw [B0_t16.cell]; rfl, by rw [B1_t16.cell]; rfl, by rw [B1_t16.cell]; rfl, by rw [B2_t16.cell]; rfl, by rw [B2_t16.cell]; rfl, by rw [B2_t16.cell]; rfl⟩))
          clear hK K
          try simp only [Act.put, pa, pb, pc]
          refine rd1 6 (fun K hK => ?_)
          go_simp
          go_at_call 30
          have hgl := By_t16.lt
          refine (specWorkPutO Y0_t16 Y1_t16 hf0 hf1 hf2 hlen0 hlen1).mono ?_
          rw [HZ0.out, HV0.out, HV1.out]
          rintro e w7 ⟨VW, rfl, W_n, hb7⟩
          have HNE : Hid (∀ k, VW.ownBlock = some k → k ≠ yb) := Lib.hid (fun k hk => by have := (W_n.block_lt hk).1; omega)
          obtain ⟨bW, nW, cW, rfl⟩ := W_n.slice
          clear Y0_t16
          clear Y1_t16
          have B0_t17 := B0_t16.next hb7
          clear B0_t16
          have B1_t17 := B1_t16.next hb7
          clear B1_t16
          have B2_t17 := B2_t16.next hb7
          clear B2_t16
          have By_t17 := By_t16.next hb7
          clear By_t16
          have hw_t17 := below_next hw_t16 hb7
          have hs_t17 := hb7.size
          have hcn7 := below_next hcn6 hb7
          go_wp2_with fail
          refine hK.out _ _ ?_ (fun hHeld => ?_)
          focus ((try dsimp only); (exact ⟨by rw [B0_t17.cell]; rfl, by rw [B0_t17.cell]; rfl, by rw [B1_t17.cell]; rfl, by rw [B1_t17.cell]; rfl, by rw [B2_t17.cell]; rfl, by rw [B2_t17.cell]; rfl, by rw [B2_t17.cell]; rfl⟩))
          clear hK K
          try simp only [Act.put, pa, pb, pc]
          (refine tk 7 ?_; try simp only [Act.put, pa, pb, pc])
          (refine tk 8 ?_; try simp only [Act.put, pa, pb, pc])
          (refine tk 9 ?_; try simp only [Act.put, pa, pb, pc])
          have d0 : w7.cell? ⟨yb, 0, none⟩ = some (.int .i64 0) := (by rw [By_t17.cell]; rfl)
          have d1 : w7.cell? ⟨yb, 1, none⟩ = some (.slice none 0 0) := (by rw [By_t17.cell]; rfl)
          have f0 := By_t17.free 0
          have f1 := By_t17.free 1
          have B0_s := (B0_t17.setOther (a := ⟨yb, 0, none⟩) (show w.heap.size ≠ yb from by omega) (.int .i64 vz0)).setOther (a := ⟨yb, 1, none⟩) (show w.heap.size ≠ yb from by omega) (.slice bW nW cW)
          have B1_s := (B1_t17.setOther (a := ⟨yb, 0, none⟩) (show w.heap.size + 1 ≠ yb from by omega) (.int .i64 vz0)).setOther (a := ⟨yb, 1, none⟩) (show w.heap.size + 1 ≠ yb from by omega) (.slice bW nW cW)
          have B2_s := (B2_t17.setOther (a := ⟨yb, 0, none⟩) (show w.heap.size + 2 ≠ yb from by omega) (.int .i64 vz0)).setOther (a := ⟨yb, 1, none⟩) (show w.heap.size + 2 ≠ yb from by omega) (.slice bW nW cW)
          have By_s := (By_t17.set_ 0 (.int .i64 vz0)).set_ 1 (.slice bW nW cW)
          have p_s := (W_n.setCell (a := ⟨yb, 0, none⟩) HNE.out (.int .i64 vz0)).setCell (a := ⟨yb, 1, none⟩) HNE.out (.slice bW nW cW)
          have hcL : Below w3.heap.size w3 ((w7.setCell ⟨yb, 0, none⟩ (.int .i64 vz0)).setCell ⟨yb, 1, none⟩ (.slice bW nW cW)) := (hcn7.setCell (show w3.heap.size ≤ yb from GG.out) _).setCell (show w3.heap.size ≤ yb from GG.out) _
          refine rd1 11 (fun K hK => ?_)
          go_simp
          refine hK.out _ _ ?_ (fun hHeld => ?_)
          focus ((try dsimp only); (exact ⟨by rw [B0_s.cell]; rfl, by rw [B0_s.cell]; rfl, by rw [B1_s.cell]; rfl, by rw [B1_s.cell]; rfl, by rw [B2_s.cell]; rfl, by rw [B2_s.cell]; rfl, by rw [B2_s.cell]; rfl⟩))
          clear hK K d0 d1 f0 f1
          try simp only [Act.put, pa, pb, pc]
          (refine tk 12 ?_; try simp only [Act.put, pa, pb, pc])
          refine wpAnyH_done (by kernel_rfl) ?_ _
          go_wp2
          go_meet
          case rel => exact ⟨_, bW, nW, cW, rfl, rfl, By_s.cast rfl, p_s.low hcn6.size, GG.out, HNE.out, hcL⟩
      · go_simp
        obtain ⟨yb, HYb⟩ : ∃ yb, Hid (w4.heap.size = yb) := ⟨_, Lib.hid rfl⟩
        have ne_B0 : w.heap.size < yb := by have h1 := B0_t12.lt; have h3 := HYb.out; omega
        have ne_B1 : w.heap.size + 1 < yb := by have h1 := B1_t12.lt; have h3 := HYb.out; omega
        have ne_B2 : w.heap.size + 2 < yb := by have h1 := B2_t12.lt; have h3 := HYb.out; omega
        have GG : Hid (w3.heap.size ≤ yb) := Lib.hid (by have h1 := hcn4.size; have h3 := HYb.out; omega)
        have hcz := below_alloc hcn4 (.cells #[.int .i64 0, .slice none 0 0] 38)
        have hb_t13 := below_alloc (Below.refl _ w4) (.cells #[.int .i64 0, .slice none 0 0] 38)
        have By_t13 := blkA w4 #[.int .i64 0, .slice none 0 0] 38
        have hz_t13 : (w4.alloc (.cells #[.int .i64 0, .slice none 0 0] 38)).heap.size = w4.heap.size + 1 := World.size_alloc _ _
        have Y0_t14 := Y0_n.next hb_t13
        clear Y0_n
        have B0_t14 := B0_t12.next hb_t13
        clear B0_t12
        have B1_t14 := B1_t12.next hb_t13
        clear B1_t12
        have B2_t14 := B2_t12.next hb_t13
        clear B2_t12
        have hw_t14 := below_next hw_t12 hb_t13
        have hs_t14 := hb_t13.size
        refine hK.out _ _ ?_ (fun hHeld => ?_)
        focus ((try dsimp only); (exact ⟨by rw [B0_t14.cell]; rfl, by rw [B0_t14.cell]; rfl, by rw [B1_t14.cell]; rfl, by rw [B1_t14.cell]; rfl, by rw [B2_t14.cell]; rfl, by rw [B2_t14.cell]; rfl, by rw [B2_t14.cell]; rfl⟩))
        clear hK K
        try simp only [Act.put, pa, pb, pc]
        rw [HYb.out] at By_t13
        try rw [HYb.out]
        obtain ⟨we, HWE⟩ : ∃ we, Hid ((w4.alloc (.cells #[.int .i64 0, .slice none 0 0] 38)) = we) := ⟨_, Lib.hid rfl⟩
        rw [HWE.out] at hHeld hcz Y0_t14 B0_t14 B1_t14 B2_t14 By_t13 hw_t14
        rw [HWE.out]
        refine rd1 3 (fun K hK => ?_)
        go_simp
        go_at_call 20
        refine (toWork_c z1 A1 c1 l1 _ hc1 hlen1 ((hr1.below hw_t14).more hw_t14.size)).mono ?_
        rintro e w5 ⟨gY1, rfl, Y1_n, ge_Y10, lt_Y10, hb5⟩
        clear ge_Y10 lt_Y10
        have Y0_t15 := Y0_t14.next hb5
        clear Y0_t14
        have B0_t15 := B0_t14.next hb5
        clear B0_t14
        have B1_t15 := B1_t14.next hb5
        clear B1_t14
        have B2_t15 := B2_t14.next hb5
        clear B2_t14
        have By_t15 := By_t13.next hb5
        clear By_t13
        have hw_t15 := below_next hw_t14 hb5
        have hs_t15 := hb5.size
        have hcn5 := below_next hcz hb5
        go_wp2_with fail
        refine hK.out _ _ ?_ (fun hHeld => ?_)
        focus ((try dsimp only); (exact ⟨by rw [B0_t15.cell]; rfl, by rw [B0_t15.cell]; rfl, by rw [B1_t15.cell]; rfl, by rw [B1_t15.cell]; rfl, by rw [B2_t15.cell]; rfl, by rw [B2_t15.cell]; rfl, by rw [B2_t15.cell]; rfl⟩))
        clear hK K
        try simp only [Act.put, pa, pb, pc]
        refine rd1 5 (fun K hK => ?_)
        go_simp
        go_at_call 31
        refine (toWrite_c x2 _).mono ?_
        rintro e w6 ⟨rfl, hb6⟩
        have Y0_t16 := Y0_t15.next hb6
        clear Y0_t15
        have Y1_t16 := Y1_n.next hb6
        clear Y1_n
        have B0_t16 := B0_t15.next hb6
        clear B0_t15
        have B1_t16 := B1_t15.next hb6
        clear B1_t15
        have B2_t16 := B2_t15.next hb6
        clear B2_t15
        have By_t16 := By_t15.next hb6
        clear By_t15
        have hw_t16 := below_next hw_t15 hb6
        have hs_t16 := hb6.size
        have hcn6 := below_next hcn5 hb6
        go_wp2_with fail
        refine hK.out _ _ ?_ (fun hHeld => ?_)
        focus ((try dsimp only); (exact ⟨by rw [B0_t16.cell]; rfl, by rw [B0_t16.cell]; rfl, by rw [B1_t16.cell]; rfl, by rw [B1_t16.cell]; rfl, by rw [B2_t16.cell]; rfl, by rw [B2_t16.cell]; rfl, by rw [B2_t16.cell]; rfl⟩))
        clear hK K
        try simp only [Act.put, pa, pb, pc]
        refine rd1 6 (fun K hK => ?_)
        go_simp
        go_at_call 30
        have hgl := By_t16.lt
        refine (specWorkPutO Y0_t16 Y1_t16 hf0 hf1 hf2 hlen0 hlen1).mono ?_
        rw [HZ0.out, HV0.out, HV1.out]
        rintro e w7 ⟨VW, rfl, W_n, hb7⟩
        have HNE : Hid (∀ k, VW.ownBlock = some k → k ≠ yb) := Lib.hid (fun k hk => by have := (W_n.block_lt hk).1; omega)
        obtain ⟨bW, nW, cW, rfl⟩ := W_n.slice
        clear Y0_t16
        clear Y1_t16
        have B0_t17 := B0_t16.next hb7
        clear B0_t16
        have B1_t17 := B1_t16.next hb7
        clear B1_t16
        have B2_t17 := B2_t16.next hb7
        clear B2_t16
        have By_t17 := By_t16.next hb7
        clear By_t16
        have hw_t17 := below_next hw_t16 hb7
        have hs_t17 := hb7.size
        have hcn7 := below_next hcn6 hb7
        go_wp2_with fail
        refine hK.out _ _ ?_ (fun hHeld => ?_)
        focus ((try dsimp only); (exact ⟨by rw [B0_t17.cell]; rfl, by rw [B0_t17.cell]; rfl, by rw [B1_t17.cell]; rfl, by rw [B1_t17.cell]; rfl, by rw [B2_t17.cell]; rfl, by rw [B2_t17.cell]; rfl, by rw [B2_t17.cell]; rfl⟩))
        clear hK K
        try simp only [Act.put, pa, pb, pc]
        (refine tk 7 ?_; try simp only [Act.put, pa, pb, pc])
        (refine tk 8 ?_; try simp only [Act.put, pa, pb, pc])
        (refine tk 9 ?_; try simp only [Act.put, pa, pb, pc])
        have d0 : w7.cell? ⟨yb, 0, none⟩ = some (.int .i64 0) := (by rw [By_t17.cell]; rfl)
        have d1 : w7.cell? ⟨yb, 1, none⟩ = some (.slice none 0 0) := (by rw [By_t17.cell]; rfl)
        have f0 := By_t17.free 0
        have f1 := By_t17.free 1
        have B0_s := (B0_t17.setOther (a := ⟨yb, 0, none⟩) (show w.heap.size ≠ yb from by omega) (.int .i64 vz0)).setOther (a := ⟨yb, 1, none⟩) (show w.heap.size ≠ yb from by omega) (.slice bW nW cW)
        have B1_s := (B1_t17.setOther (a := ⟨yb, 0, none⟩) (show w.heap.size + 1 ≠ yb from by omega) (.int .i64 vz0)).setOther (a := ⟨yb, 1, none⟩) (show w.heap.size + 1 ≠ yb from by omega) (.slice bW nW cW)
        have B2_s := (B2_t17.setOther (a := ⟨yb, 0, none⟩) (show w.heap.size + 2 ≠ yb from by omega) (.int .i64 vz0)).setOther (a := ⟨yb, 1, none⟩) (show w.heap.size + 2 ≠ yb from by omega) (.slice bW nW cW)
        have By_s := (By_t17.set_ 0 (.int .i64 vz0)).set_ 1 (.slice bW nW cW)
        have p_s := (W_n.setCell (a := ⟨yb, 0, none⟩) HNE.out (.int .i64 vz0)).setCell (a := ⟨yb, 1, none⟩) HNE.out (.slice bW nW cW)
        have hcL : Below w3.heap.size w3 ((w7.setCell ⟨yb, 0, none⟩ (.int .i64 vz0)).setCell ⟨yb, 1, none⟩ (.slice bW nW cW)) := (hcn7.setCell (show w3.heap.size ≤ yb from GG.out) _).setCell (show w3.heap.size ≤ yb from GG.out) _
        refine rd1 11 (fun K hK => ?_)
        go_simp
        refine hK.out _ _ ?_ (fun hHeld => ?_)
        focus ((try dsimp only); (exact ⟨by rw [B0_s.cell]; rfl, by rw [B0_s.cell]; rfl, by rw [B1_s.cell]; rfl, by rw [B1_s.cell]; rfl, by rw [B2_s.cell]; rfl, by rw [B2_s.cell]; rfl, by rw [B2_s.cell]; rfl⟩))
        clear hK K d0 d1 f0 f1
        try simp only [Act.put, pa, pb, pc]
        (refine tk 12 ?_; try simp only [Act.put, pa, pb, pc])
        refine wpAnyH_done (by kernel_rfl) ?_ _
        go_wp2
        go_meet
        case rel => exact ⟨_, bW, nW, cW, rfl, rfl, By_s.cast rfl, p_s.low hcn6.size, GG.out, HNE.out, hcL⟩
    · go_simp
      obtain ⟨yb, HYb⟩ : ∃ yb, Hid (wd.heap.size = yb) := ⟨_, Lib.hid rfl⟩
      have ne_B0 : w.heap.size < yb := by have h1 := B0_t11.lt; have h3 := HYb.out; omega
      have ne_B1 : w.heap.size + 1 < yb := by have h1 := B1_t11.lt; have h3 := HYb.out; omega
      have ne_B2 : w.heap.size + 2 < yb := by have h1 := B2_t11.lt; have h3 := HYb.out; omega
      have GG : Hid (w3.heap.size ≤ yb) := Lib.hid (by have h1 := hc_t10.size; have h3 := HYb.out; omega)
      have hcz := below_alloc hc_t10 (.cells #[.int .i64 0, .slice none 0 0] 38)
      have hb_t12 := below_alloc (Below.refl _ wd) (.cells #[.int .i64 0, .slice none 0 0] 38)
      have By_t12 := blkA wd #[.int .i64 0, .slice none 0 0] 38
      have hz_t12 : (wd.alloc (.cells #[.int .i64 0, .slice none 0 0] 38)).heap.size = wd.heap.size + 1 := World.size_alloc _ _
      have B0_t13 := B0_t11.next hb_t12
      clear B0_t11
      have B1_t13 := B1_t11.next hb_t12
      clear B1_t11
      have B2_t13 := B2_t11.next hb_t12
      clear B2_t11
      have hw_t13 := below_next hw_t11 hb_t12
      have hs_t13 := hb_t12.size
      refine hK.out _ _ ?_ (fun hHeld => ?_)
      focus ((try dsimp only); (exact ⟨by rw [B0_t13.cell]; rfl, by rw [B0_t13.cell]; rfl, by rw [B1_t13.cell]; rfl, by rw [B1_t13.cell]; rfl, by rw [B2_t13.cell]; rfl, by rw [B2_t13.cell]; rfl, by rw [B2_t13.cell]; rfl⟩))
      clear hK K
      try simp only [Act.put, pa, pb, pc]
      rw [HYb.out] at By_t12
      try rw [HYb.out]
      obtain ⟨we, HWE⟩ : ∃ we, Hid ((wd.alloc (.cells #[.int .i64 0, .slice none 0 0] 38)) = we) := ⟨_, Lib.hid rfl⟩
      rw [HWE.out] at hHeld hcz B0_t13 B1_t13 B2_t13 By_t12 hw_t13
      rw [HWE.out]
      refine rd1 1 (fun K hK => ?_)
      go_simp
      go_at_call 19
      refine (toVers_c z0 A0 c0 l0 _ hc0 hlen0 ((hr0.below hw_t13).more hw_t13.size)).mono ?_
      rintro e w4 ⟨gY0, rfl, Y0_n, ge_Y00, lt_Y00, hb4⟩
      clear ge_Y00 lt_Y00
      have B0_t14 := B0_t13.next hb4
      clear B0_t13
      have B1_t14 := B1_t13.next hb4
      clear B1_t13
      have B2_t14 := B2_t13.next hb4
      clear B2_t13
      have By_t14 := By_t12.next hb4
      clear By_t12
      have hw_t14 := below_next hw_t13 hb4
      have hs_t14 := hb4.size
      have hcn4 := below_next hcz hb4
      go_wp2_with fail
      refine hK.out _ _ ?_ (fun hHeld => ?_)
      focus ((try dsimp only); (exact ⟨by rw [B0_t14.cell]; rfl, by rw [B0_t14.cell]; rfl, by rw [B1_t14.cell]; rfl, by rw [B1_t14.cell]; rfl, by rw [B2_t14.cell]; rfl, by rw [B2_t14.cell]; rfl, by rw [B2_t14.cell]; rfl⟩))
      clear hK K
      try simp only [Act.put, pa, pb, pc]
      refine rd1 3 (fun K hK => ?_)
      go_simp
      go_at_call 20
      refine (toWork_c z1 A1 c1 l1 _ hc1 hlen1 ((hr1.below hw_t14).more hw_t14.size)).mono ?_
      rintro e w5 ⟨gY1, rfl, Y1_n, ge_Y10, lt_Y10, hb5⟩
      clear ge_Y10 lt_Y10
      have Y0_t15 := Y0_n.next hb5
      clear Y0_n
      have B0_t15 := B0_t14.next hb5
      clear B0_t14
      have B1_t15 := B1_t14.next hb5
      clear B1_t14
      have B2_t15 := B2_t14.next hb5
      clear B2_t14
      have By_t15 := By_t14.next hb5
      clear By_t14
      have hw_t15 := below_next hw_t14 hb5
      have hs_t15 := hb5.size
      have hcn5 := below_next hcn4 hb5
      go_wp2_with fail
      refine hK.out _ _ ?_ (fun hHeld => ?_)
      focus ((try dsimp only); (exact ⟨by rw [B0_t15.cell]; rfl, by rw [B0_t15.cell]; rfl, by rw [B1_t15.cell]; rfl, by rw [B1_t15.cell]; rfl, by rw [B2_t15.cell]; rfl, by rw [B2_t15.cell]; rfl, by rw [B2_t15.cell]; rfl⟩))
      clear hK K
      try simp only [Act.put, pa, pb, pc]
      refine rd1 5 (fun K hK => ?_)
      go_simp
      go_at_call 31
      refine (toWrite_c x2 _).mono ?_
      rintro e w6 ⟨rfl, hb6⟩
      have Y0_t16 := Y0_t15.next hb6
      clear Y0_t15
      have Y1_t16 := Y1_n.next hb6
      clear Y1_n
      have B0_t16 := B0_t15.next hb6
      clear B0_t15
      have B1_t16 := B1_t15.next hb6
      clear B1_t15
      have B2_t16 := B2_t15.next hb6
      clear B2_t15
      have By_t16 := By_t15.next hb6
      clear By_t15
      have hw_t16 := below_next hw_t15 hb6
      have hs_t16 := hb6.size
      have hcn6 := below_next hcn5 hb6
      go_wp2_with fail
      refine hK.out _ _ ?_ (fun hHeld => ?_)
      focus ((try dsimp only); (exact ⟨by rw [B0_t16.cell]; rfl, by rw [B0_t16.cell]; rfl, by rw [B1_t16.cell]; rfl, by rw [B1_t16.cell]; rfl, by rw [B2_t16.cell]; rfl, by rw [B2_t16.cell]; rfl, by rw [B2_t16.cell]; rfl⟩))
      clear hK K
      try simp only [Act.put, pa, pb, pc]
      refine rd1 6 (fun K hK => ?_)
      go_simp
      go_at_call 30
      have hgl := By_t16.lt
      refine (specWorkPutO Y0_t16 Y1_t16 hf0 hf1 hf2 hlen0 hlen1).mono ?_
      rw [HZ0.out, HV0.out, HV1.out]
      rintro e w7 ⟨VW, rfl, W_n, hb7⟩
      have HNE : Hid (∀ k, VW.ownBlock = some k → k ≠ yb) := Lib.hid (fun k hk => by have := (W_n.block_lt hk).1; omega)
      obtain ⟨bW, nW, cW, rfl⟩ := W_n.slice
      clear Y0_t16
      clear Y1_t16
      have B0_t17 := B0_t16.next hb7
      clear B0_t16
      have B1_t17 := B1_t16.next hb7
      clear B1_t16
      have B2_t17 := B2_t16.next hb7
      clear B2_t16
      have By_t17 := By_t16.next hb7
      clear By_t16
      have hw_t17 := below_next hw_t16 hb7
      have hs_t17 := hb7.size
      have hcn7 := below_next hcn6 hb7
      go_wp2_with fail
      refine hK.out _ _ ?_ (fun hHeld => ?_)
      focus ((try dsimp only); (exact ⟨by rw [B0_t17.cell]; rfl, by rw [B0_t17.cell]; rfl, by rw [B1_t17.cell]; rfl, by rw [B1_t17.cell]; rfl, by rw [B2_t17.cell]; rfl, by rw [B2_t17.cell]; rfl, by rw [B2_t17.cell]; rfl⟩))
      clear hK K
      try simp only [Act.put, pa, pb, pc]
      (refine tk 7 ?_; try simp only [Act.put, pa, pb, pc])
      (refine tk 8 ?_; try simp only [Act.put, pa, pb, pc])
      (refine tk 9 ?_; try simp only [Act.put, pa, pb, pc])
      have d0 : w7.cell? ⟨yb, 0, none⟩ = some (.int .i64 0) := (by rw [By_t17.cell]; rfl)
      have d1 : w7.cell? ⟨yb, 1, none⟩ = some (.slice none 0 0) := (by rw [By_t17.cell]; rfl)
      have f0 := By_t17.free 0
      have f1 := By_t17.free 1
      have B0_s := (B0_t17.setOther (a := ⟨yb, 0, none⟩) (show w.heap.size ≠ yb from by omega) (.int .i64 vz0)).setOther (a := ⟨yb, 1, none⟩) (show w.heap.size ≠ yb from by omega) (.slice bW nW cW)
      have B1_s := (B1_t17.setOther (a := ⟨yb, 0, none⟩) (show w.heap.size + 1 ≠ yb from by omega) (.int .i64 vz0)).setOther (a := ⟨yb, 1, none⟩) (show w.heap.size + 1 ≠ yb from by omega) (.slice bW nW cW)
      have B2_s := (B2_t17.setOther (a := ⟨yb, 0, none⟩) (show w.heap.size + 2 ≠ yb from by omega) (.int .i64 vz0)).setOther (a := ⟨yb, 1, none⟩) (show w.heap.size + 2 ≠ yb from by omega) (.slice bW nW cW)
      have By_s := (By_t17.set_ 0 (.int .i64 vz0)).set_ 1 (.slice bW nW cW)
      have p_s := (W_n.setCell (a := ⟨yb, 0, none⟩) HNE.out (.int .i64 vz0)).setCell (a := ⟨yb, 1, none⟩) HNE.out (.slice bW nW cW)
      have hcL : Below w3.heap.size w3 ((w7.setCell ⟨yb, 0, none⟩ (.int .i64 vz0)).setCell ⟨yb, 1, none⟩ (.slice bW nW cW)) := (hcn7.setCell (show w3.heap.size ≤ yb from GG.out) _).setCell (show w3.heap.size ≤ yb from GG.out) _
      refine rd1 11 (fun K hK => ?_)
      go_simp
      refine hK.out _ _ ?_ (fun hHeld => ?_)
      focus ((try dsimp only); (exact ⟨by rw [B0_s.cell]; rfl, by rw [B0_s.cell]; rfl, by rw [B1_s.cell]; rfl, by rw [B1_s.cell]; rfl, by rw [B2_s.cell]; rfl, by rw [B2_s.cell]; rfl, by rw [B2_s.cell]; rfl⟩))
      clear hK K d0 d1 f0 f1
      try simp only [Act.put, pa, pb, pc]
      (refine tk 12 ?_; try simp only [Act.put, pa, pb, pc])
      refine wpAnyH_done (by kernel_rfl) ?_ _
      go_wp2
      go_meet
      case rel => exact ⟨_, bW, nW, cW, rfl, rfl, By_s.cast rfl, p_s.low hcn6.size, GG.out, HNE.out, hcL⟩
  case rest =>
    obtain ⟨gW, bW, nW, cW, rfl, rfl, Bw_c, W_n, hgg_W, hne_W, hbc_W⟩ := hcut
    obtain ⟨wcW, HWCW⟩ : ∃ x, Hid (wc = x) := ⟨_, Lib.hid rfl⟩
    rw [HWCW.out] at Bw_c W_n hbc_W
    rw [HWCW.out]
    have B0_t60 := B0_t9.next hbc_W
    clear B0_t9
    have B1_t60 := B1_t9.next hbc_W
    clear B1_t9
    have B2_t60 := B2_t9.next hbc_W
    clear B2_t9
    have hw_t60 := below_next hw_t9 hbc_W
    have hs_t60 := hbc_W.size
    have ge_W : ∀ g, (Value.slice bW nW cW).ownBlock = some g → w3.heap.size ≤ g := fun g hg => (W_n.block_lt hg).1
    have lt_W : ∀ g, (Value.slice bW nW cW).ownBlock = some g → g < wcW.heap.size := fun g hg => (W_n.block_lt hg).2
    have hgl_W := Bw_c.lt
    have qB00 : wcW.cell? ⟨w.heap.size, 0, none⟩ = some (.int .i64 z0) := by rw [B0_t60.cell]; rfl
    have qB01 : wcW.cell? ⟨w.heap.size, 1, none⟩ = some (.slice A0 l0.length c0) := by rw [B0_t60.cell]; rfl
    have qB10 : wcW.cell? ⟨w.heap.size + 1, 0, none⟩ = some (.int .i64 z1) := by rw [B1_t60.cell]; rfl
    have qB11 : wcW.cell? ⟨w.heap.size + 1, 1, none⟩ = some (.slice A1 l1.length c1) := by rw [B1_t60.cell]; rfl
    have qB20 : wcW.cell? ⟨w.heap.size + 2, 0, none⟩ = some (.string x2.k) := by rw [B2_t60.cell]; rfl
    have qB21 : wcW.cell? ⟨w.heap.size + 2, 1, none⟩ = some (.int .i64 x2.n) := by rw [B2_t60.cell]; rfl
    have qB22 : wcW.cell? ⟨w.heap.size + 2, 2, none⟩ = some (.bool x2.g) := by rw [B2_t60.cell]; rfl
    have qBw0 : wcW.cell? ⟨gW, 0, none⟩ = some (.int .i64 vz0) := by rw [Bw_c.cell]; rfl
    have qBw1 : wcW.cell? ⟨gW, 1, none⟩ = some (.slice bW nW cW) := by rw [Bw_c.cell]; rfl
    go_wp2_with fail
    clear qB00 qB01 qB10 qB11 qB20 qB21 qB22 qBw0 qBw1
    refine (toVers_c z0 A0 c0 l0 _ hc0 hlen0 ((hr0.below hw_t60).more hw_t60.size)).mono ?_
    rintro e w24 ⟨gX0, rfl, X0_n, ge_X00, lt_X00, hb24⟩
    have W_t61 := W_n.next hb24
    clear W_n
    have B0_t61 := B0_t60.next hb24
    clear B0_t60
    have B1_t61 := B1_t60.next hb24
    clear B1_t60
    have B2_t61 := B2_t60.next hb24
    clear B2_t60
    have Bw_t61 := Bw_c.next hb24
    clear Bw_c
    have hw_t61 := below_next hw_t60 hb24
    have hs_t61 := hb24.size
    have ge_X0 : ∀ g, (Value.slice (some ⟨gX0, 0, none⟩) l0.length l0.length).ownBlock = some g → (wcW).heap.size ≤ g := fun g hg => (by have : gX0 = g := Option.some.inj hg; omega)
    have lt_X0 : ∀ g, (Value.slice (some ⟨gX0, 0, none⟩) l0.length l0.length).ownBlock = some g → g < w24.heap.size := fun g hg => (by have : gX0 = g := Option.some.inj hg; omega)
    clear ge_X00 lt_X00
    have hb_t62 := below_alloc (Below.refl _ w24) (.cells #[.int .i64 z0, .slice (some ⟨gX0, 0, none⟩) l0.length l0.length] 34)
    have Bx0_t62 := blkA w24 #[.int .i64 z0, .slice (some ⟨gX0, 0, none⟩) l0.length l0.length] 34
    have hz_t62 : (w24.alloc (.cells #[.int .i64 z0, .slice (some ⟨gX0, 0, none⟩) l0.length l0.length] 34)).heap.size = w24.heap.size + 1 := World.size_alloc _ _
    have W_t63 := W_t61.next hb_t62
    clear W_t61
    have X0_t63 := X0_n.next hb_t62
    clear X0_n
    have B0_t63 := B0_t61.next hb_t62
    clear B0_t61
    have B1_t63 := B1_t61.next hb_t62
    clear B1_t61
    have B2_t63 := B2_t61.next hb_t62
    clear B2_t61
    have Bw_t63 := Bw_t61.next hb_t62
    clear Bw_t61
    have hw_t63 := below_next hw_t61 hb_t62
    have hs_t63 := hb_t62.size
    have qB00 : (w24.alloc (.cells #[.int .i64 z0, .slice (some ⟨gX0, 0, none⟩) l0.length l0.length] 34)).cell? ⟨w.heap.size, 0, none⟩ = some (.int .i64 z0) := by rw [B0_t63.cell]; rfl
    have qB01 : (w24.alloc (.cells #[.int .i64 z0, .slice (some ⟨gX0, 0, none⟩) l0.length l0.length] 34)).cell? ⟨w.heap.size, 1, none⟩ = some (.slice A0 l0.length c0) := by rw [B0_t63.cell]; rfl
    have qB10 : (w24.alloc (.cells #[.int .i64 z0, .slice (some ⟨gX0, 0, none⟩) l0.length l0.length] 34)).cell? ⟨w.heap.size + 1, 0, none⟩ = some (.int .i64 z1) := by rw [B1_t63.cell]; rfl
    have qB11 : (w24.alloc (.cells #[.int .i64 z0, .slice (some ⟨gX0, 0, none⟩) l0.length l0.length] 34)).cell? ⟨w.heap.size + 1, 1, none⟩ = some (.slice A1 l1.length c1) := by rw [B1_t63.cell]; rfl
    have qB20 : (w24.alloc (.cells #[.int .i64 z0, .slice (some ⟨gX0, 0, none⟩) l0.length l0.length] 34)).cell? ⟨w.heap.size + 2, 0, none⟩ = some (.string x2.k) := by rw [B2_t63.cell]; rfl
    have qB21 : (w24.alloc (.cells #[.int .i64 z0, .slice (some ⟨gX0, 0, none⟩) l0.length l0.length] 34)).cell? ⟨w.heap.size + 2, 1, none⟩ = some (.int .i64 x2.n) := by rw [B2_t63.cell]; rfl
    have qB22 : (w24.alloc (.cells #[.int .i64 z0, .slice (some ⟨gX0, 0, none⟩) l0.length l0.length] 34)).cell? ⟨w.heap.size + 2, 2, none⟩ = some (.bool x2.g) := by rw [B2_t63.cell]; rfl
    have qBw0 : (w24.alloc (.cells #[.int .i64 z0, .slice (some ⟨gX0, 0, none⟩) l0.length l0.length] 34)).cell? ⟨gW, 0, none⟩ = some (.int .i64 vz0) := by rw [Bw_t63.cell]; rfl
    have qBw1 : (w24.alloc (.cells #[.int .i64 z0, .slice (some ⟨gX0, 0, none⟩) l0.length l0.length] 34)).cell? ⟨gW, 1, none⟩ = some (.slice bW nW cW) := by rw [Bw_t63.cell]; rfl
    have qBx00 : (w24.alloc (.cells #[.int .i64 z0, .slice (some ⟨gX0, 0, none⟩) l0.length l0.length] 34)).cell? ⟨w24.heap.size, 0, none⟩ = some (.int .i64 z0) := by rw [Bx0_t62.cell]; rfl
    have qBx01 : (w24.alloc (.cells #[.int .i64 z0, .slice (some ⟨gX0, 0, none⟩) l0.length l0.length] 34)).cell? ⟨w24.heap.size, 1, none⟩ = some (.slice (some ⟨gX0, 0, none⟩) l0.length l0.length) := by rw [Bx0_t62.cell]; rfl
    go_wp2_with fail
    clear qB00 qB01 qB10 qB11 qB20 qB21 qB22 qBw0 qBw1 qBx00 qBx01
    refine (toWork_c z1 A1 c1 l1 _ hc1 hlen1 ((hr1.below hw_t63).more hw_t63.size)).mono ?_
    rintro e w25 ⟨gX1, rfl, X1_n, ge_X10, lt_X10, hb25⟩
    have W_t64 := W_t63.next hb25
    clear W_t63
    have X0_t64 := X0_t63.next hb25
    clear X0_t63
    have B0_t64 := B0_t63.next hb25
    clear B0_t63
    have B1_t64 := B1_t63.next hb25
    clear B1_t63
    have B2_t64 := B2_t63.next hb25
    clear B2_t63
    have Bw_t64 := Bw_t63.next hb25
    clear Bw_t63
    have Bx0_t64 := Bx0_t62.next hb25
    clear Bx0_t62
    have hw_t64 := below_next hw_t63 hb25
    have hs_t64 := hb25.size
    have ge_X1 : ∀ g, (Value.slice (some ⟨gX1, 0, none⟩) l1.length l1.length).ownBlock = some g → ((w24.alloc (.cells #[.int .i64 z0, .slice (some ⟨gX0, 0, none⟩) l0.length l0.length] 34))).heap.size ≤ g := fun g hg => (by have : gX1 = g := Option.some.inj hg; omega)
    have lt_X1 : ∀ g, (Value.slice (some ⟨gX1, 0, none⟩) l1.length l1.length).ownBlock = some g → g < w25.heap.size := fun g hg => (by have : gX1 = g := Option.some.inj hg; omega)
    clear ge_X10 lt_X10
    have hb_t65 := below_alloc (Below.refl _ w25) (.cells #[.int .i64 z1, .slice (some ⟨gX1, 0, none⟩) l1.length l1.length] 38)
    have Bx1_t65 := blkA w25 #[.int .i64 z1, .slice (some ⟨gX1, 0, none⟩) l1.length l1.length] 38
    have hz_t65 : (w25.alloc (.cells #[.int .i64 z1, .slice (some ⟨gX1, 0, none⟩) l1.length l1.length] 38)).heap.size = w25.heap.size + 1 := World.size_alloc _ _
    have W_t66 := W_t64.next hb_t65
    clear W_t64
    have X0_t66 := X0_t64.next hb_t65
    clear X0_t64
    have X1_t66 := X1_n.next hb_t65
    clear X1_n
    have B0_t66 := B0_t64.next hb_t65
    clear B0_t64
    have B1_t66 := B1_t64.next hb_t65
    clear B1_t64
    have B2_t66 := B2_t64.next hb_t65
    clear B2_t64
    have Bw_t66 := Bw_t64.next hb_t65
    clear Bw_t64
    have Bx0_t66 := Bx0_t64.next hb_t65
    clear Bx0_t64
    have hw_t66 := below_next hw_t64 hb_t65
    have hs_t66 := hb_t65.size
    have qB00 : (w25.alloc (.cells #[.int .i64 z1, .slice (some ⟨gX1, 0, none⟩) l1.length l1.length] 38)).cell? ⟨w.heap.size, 0, none⟩ = some (.int .i64 z0) := by rw [B0_t66.cell]; rfl
    have qB01 : (w25.alloc (.cells #[.int .i64 z1, .slice (some ⟨gX1, 0, none⟩) l1.length l1.length] 38)).cell? ⟨w.heap.size, 1, none⟩ = some (.slice A0 l0.length c0) := by rw [B0_t66.cell]; rfl
    have qB10 : (w25.alloc (.cells #[.int .i64 z1, .slice (some ⟨gX1, 0, none⟩) l1.length l1.length] 38)).cell? ⟨w.heap.size + 1, 0, none⟩ = some (.int .i64 z1) := by rw [B1_t66.cell]; rfl
    have qB11 : (w25.alloc (.cells #[.int .i64 z1, .slice (some ⟨gX1, 0, none⟩) l1.length l1.length] 38)).cell? ⟨w.heap.size + 1, 1, none⟩ = some (.slice A1 l1.length c1) := by rw [B1_t66.cell]; rfl
    have qB20 : (w25.alloc (.cells #[.int .i64 z1, .slice (some ⟨gX1, 0, none⟩) l1.length l1.length] 38)).cell? ⟨w.heap.size + 2, 0, none⟩ = some (.string x2.k) := by rw [B2_t66.cell]; rfl
    have qB21 : (w25.alloc (.cells #[.int .i64 z1, .slice (some ⟨gX1, 0, none⟩) l1.length l1.length] 38)).cell? ⟨w.heap.size + 2, 1, none⟩ = some (.int .i64 x2.n) := by rw [B2_t66.cell]; rfl
    have qB22 : (w25.alloc (.cells #[.int .i64 z1, .slice (some ⟨gX1, 0, none⟩) l1.length l1.length] 38)).cell? ⟨w.heap.size + 2, 2, none⟩ = some (.bool x2.g) := by rw [B2_t66.cell]; rfl
    have qBw0 : (w25.alloc (.cells #[.int .i64 z1, .slice (some ⟨gX1, 0, none⟩) l1.length l1.length] 38)).cell? ⟨gW, 0, none⟩ = some (.int .i64 vz0) := by rw [Bw_t66.cell]; rfl
    have qBw1 : (w25.alloc (.cells #[.int .i64 z1, .slice (some ⟨gX1, 0, none⟩) l1.length l1.length] 38)).cell? ⟨gW, 1, none⟩ = some (.slice bW nW cW) := by rw [Bw_t66.cell]; rfl
    have qBx00 : (w25.alloc (.cells #[.int .i64 z1, .slice (some ⟨gX1, 0, none⟩) l1.length l1.length] 38)).cell? ⟨w24.heap.size, 0, none⟩ = some (.int .i64 z0) := by rw [Bx0_t66.cell]; rfl
    have qBx01 : (w25.alloc (.cells #[.int .i64 z1, .slice (some ⟨gX1, 0, none⟩) l1.length l1.length] 38)).cell? ⟨w24.heap.size, 1, none⟩ = some (.slice (some ⟨gX0, 0, none⟩) l0.length l0.length) := by rw [Bx0_t66.cell]; rfl
    have qBx10 : (w25.alloc (.cells #[.int .i64 z1, .slice (some ⟨gX1, 0, none⟩) l1.length l1.length] 38)).cell? ⟨w25.heap.size, 0, none⟩ = some (.int .i64 z1) := by rw [Bx1_t65.cell]; rfl
    have qBx11 : (w25.alloc (.cells #[.int .i64 z1, .slice (some ⟨gX1, 0, none⟩) l1.length l1.length] 38)).cell? ⟨w25.heap.size, 1, none⟩ = some (.slice (some ⟨gX1, 0, none⟩) l1.length l1.length) := by rw [Bx1_t65.cell]; rfl
    go_wp2
    clear qB00 qB01 qB10 qB11 qB20 qB21 qB22 qBw0 qBw1 qBx00 qBx01 qBx10 qBx11
    go_cut [12, 13] (fun p q W => ∃ (gG : Nat) (bG : Option Addr) (nG cG : Nat), p = .pointer (some ⟨gG, 0, none⟩) ∧ q = .int .i64 vb1 ∧ Blk W gG 38 #[.int .i64 vz0, .slice bG nG cG] ∧ OwnG W (w25.alloc (.cells #[.int .i64 z1, .slice (some ⟨gX1, 0, none⟩) l1.length l1.length] 38)).heap.size (.slice bG nG cG) vl0 ∧ (w25.alloc (.cells #[.int .i64 z1, .slice (some ⟨gX1, 0, none⟩) l1.length l1.length] 38)).heap.size ≤ gG ∧ (∀ k, (Value.slice bG nG cG).ownBlock = some k → k ≠ gG) ∧ Below (w25.alloc (.cells #[.int .i64 z1, .slice (some ⟨gX1, 0, none⟩) l1.length l1.length] 38)).heap.size (w25.alloc (.cells #[.int .i64 z1, .slice (some ⟨gX1, 0, none⟩) l1.length l1.length] 38)) W)
    case first =>
      have hb_t67 : Below (w25.alloc (.cells #[.int .i64 z1, .slice (some ⟨gX1, 0, none⟩) l1.length l1.length] 38)).heap.size (w25.alloc (.cells #[.int .i64 z1, .slice (some ⟨gX1, 0, none⟩) l1.length l1.length] 38)) (w25.alloc (.cells #[.int .i64 z1, .slice (some ⟨gX1, 0, none⟩) l1.length l1.length] 38)).drew := (Below.refl _ _).drew
      have W_t68 := W_t66.next hb_t67
      clear W_t66
      have X0_t68 := X0_t66.next hb_t67
      clear X0_t66
      have X1_t68 := X1_t66.next hb_t67
      clear X1_t66
      have B0_t68 := B0_t66.next hb_t67
      clear B0_t66
      have B1_t68 := B1_t66.next hb_t67
      clear B1_t66
      have B2_t68 := B2_t66.next hb_t67
      clear B2_t66
      have Bw_t68 := Bw_t66.next hb_t67
      clear Bw_t66
      have Bx0_t68 := Bx0_t66.next hb_t67
      clear Bx0_t66
      have Bx1_t68 := Bx1_t65.next hb_t67
      clear Bx1_t65
      have hw_t68 := below_next hw_t66 hb_t67
      have hs_t68 := hb_t67.size
      have hc_t67 := hb_t67
      clear hb_t67
      refine wp_region_held_drew (S := (fun W => W.cell? ⟨w.heap.size, 0, none⟩ = some (.int .i64 z0) ∧ W.cell? ⟨w.heap.size, 1, none⟩ = some (.slice A0 l0.length c0) ∧ W.cell? ⟨w.heap.size + 1, 0, none⟩ = some (.int .i64 z1) ∧ W.cell? ⟨w.heap.size + 1, 1, none⟩ = some (.slice A1 l1.length c1) ∧ W.cell? ⟨w.heap.size + 2, 0, none⟩ = some (.string x2.k) ∧ W.cell? ⟨w.heap.size + 2, 1, none⟩ = some (.int .i64 x2.n) ∧ W.cell? ⟨w.heap.size + 2, 2, none⟩ = some (.bool x2.g) ∧ W.cell? ⟨gW, 0, none⟩ = some (.int .i64 vz0) ∧ W.cell? ⟨gW, 1, none⟩ = some (.slice bW nW cW) ∧ W.cell? ⟨w24.heap.size, 0, none⟩ = some (.int .i64 z0) ∧ W.cell? ⟨w24.heap.size, 1, none⟩ = some (.slice (some ⟨gX0, 0, none⟩) l0.length l0.length) ∧ W.cell? ⟨w25.heap.size, 0, none⟩ = some (.int .i64 z1) ∧ W.cell? ⟨w25.heap.size, 1, none⟩ = some (.slice (some ⟨gX1, 0, none⟩) l1.length l1.length))) (by kernel_rfl) ?_ (fun hHeld => ?_)
      focus ((try dsimp only); (exact ⟨by rw [B0_t68.cell]; rfl, by rw [B0_t68.cell]; rfl, by rw [B1_t68.cell]; rfl, by rw [B1_t68.cell]; rfl, by rw [B2_t68.cell]; rfl, by rw [B2_t68.cell]; rfl, by rw [B2_t68.cell]; rfl, by rw [Bw_t68.cell]; rfl, by rw [Bw_t68.cell]; rfl, by rw [Bx0_t68.cell]; rfl, by rw [Bx0_t68.cell]; rfl, by rw [Bx1_t68.cell]; rfl, by rw [Bx1_t68.cell]; rfl⟩))
      obtain ⟨wd, HWD⟩ : ∃ wd, Hid ((w25.alloc (.cells #[.int .i64 z1, .slice (some ⟨gX1, 0, none⟩) l1.length l1.length] 38)).drew = wd) := ⟨_, Lib.hid rfl⟩
      rw [HWD.out] at hHeld hc_t67 W_t68 X0_t68 X1_t68 B0_t68 B1_t68 B2_t68 Bw_t68 Bx0_t68 Bx1_t68 hw_t68
      rw [HWD.out]
      (refine tk 0 ?_; try simp only [Act.put, pa, pb, pc])
      (refine tk 1 ?_; try simp only [Act.put, pa, pb, pc])
      (refine tk 2 ?_; try simp only [Act.put, pa, pb, pc])
      refine wpAnyH_ready (rs := [3, 8]) (by kernel_rfl) (by simp) (AllReadyH.cons (by (simp only [ga, gb, gc]; rfl)) (fun K hK => ?_) (AllReadyH.cons (by (simp only [ga, gb, gc]; rfl)) (fun K hK => ?_) AllReadyH.nil))
      · go_simp
        go_at_call 31
        refine (toWrite_c x2 _).mono ?_
        rintro e w26 ⟨rfl, hb26⟩
        have W_t69 := W_t68.next hb26
        clear W_t68
        have X0_t69 := X0_t68.next hb26
        clear X0_t68
        have X1_t69 := X1_t68.next hb26
        clear X1_t68
        have B0_t69 := B0_t68.next hb26
        clear B0_t68
        have B1_t69 := B1_t68.next hb26
        clear B1_t68
        have B2_t69 := B2_t68.next hb26
        clear B2_t68
        have Bw_t69 := Bw_t68.next hb26
        clear Bw_t68
        have Bx0_t69 := Bx0_t68.next hb26
        clear Bx0_t68
        have Bx1_t69 := Bx1_t68.next hb26
        clear Bx1_t68
        have hw_t69 := below_next hw_t68 hb26
        have hs_t69 := hb26.size
        have hcn26 := below_next hc_t67 hb26
        go_wp2_with fail
        refine hK.out _ _ ?_ (fun hHeld => ?_)
        focus ((try dsimp only); (exact ⟨by rw [B0_t69.cell]; rfl, by rw [B0_t69.cell]; rfl, by rw [B1_t69.cell]; rfl, by rw [B1_t69.cell]; rfl, by rw [B2_t69.cell]; rfl, by rw [B2_t69.cell]; rfl, by rw [B2_t69.cell]; rfl, by rw [Bw_t69.cell]; rfl, by rw [Bw_t69.cell]; rfl, by rw [Bx0_t69.cell]; rfl, by rw [Bx0_t69.cell]; rfl, by rw [Bx1_t69.cell]; rfl, by rw [Bx1_t69.cell]; rfl⟩))
        clear hK K
        try simp only [Act.put, pa, pb, pc]
        refine wpAnyH_ready (rs := [4, 8]) (by kernel_rfl) (by simp) (AllReadyH.cons (by (simp only [ga, gb, gc]; rfl)) (fun K hK => ?_) (AllReadyH.cons (by (simp only [ga, gb, gc]; rfl)) (fun K hK => ?_) AllReadyH.nil))
        · go_simp
          go_at_call 32
          refine (implWorkPutO X0_t69 X1_t69 hf0 hf1 hf2 hlen0 hlen1).mono ?_
          rw [HZ0.out, HV0.out, HV1.out]
          rintro e w27 ⟨VG, rfl, G_n, hb27⟩
          obtain ⟨bG, nG, cG, rfl⟩ := G_n.slice
          have W_t70 := W_t69.next hb27
          clear W_t69
          have X0_t70 := X0_t69.next hb27
          clear X0_t69
          have X1_t70 := X1_t69.next hb27
          clear X1_t69
          have B0_t70 := B0_t69.next hb27
          clear B0_t69
          have B1_t70 := B1_t69.next hb27
          clear B1_t69
          have B2_t70 := B2_t69.next hb27
          clear B2_t69
          have Bw_t70 := Bw_t69.next hb27
          clear Bw_t69
          have Bx0_t70 := Bx0_t69.next hb27
          clear Bx0_t69
          have Bx1_t70 := Bx1_t69.next hb27
          clear Bx1_t69
          have hw_t70 := below_next hw_t69 hb27
          have hs_t70 := hb27.size
          have hcn27 := below_next hcn26 hb27
          go_wp2_with fail
          refine hK.out _ _ ?_ (fun hHeld => ?_)
          focus ((try dsimp only); (exact ⟨by rw [B0_t70.cell]; rfl, by rw [B0_t70.cell]; rfl, by rw [B1_t70.cell]; rfl, by rw [B1_t70.cell]; rfl, by rw [B2_t70.cell]; rfl, by rw [B2_t70.cell]; rfl, by rw [B2_t70.cell]; rfl, by rw [Bw_t70.cell]; rfl, by rw [Bw_t70.cell]; rfl, by rw [Bx0_t70.cell]; rfl, by rw [Bx0_t70.cell]; rfl, by rw [Bx1_t70.cell]; rfl, by rw [Bx1_t70.cell]; rfl⟩))
          clear hK K
          try simp only [Act.put, pa, pb, pc]
          (refine tk 5 ?_; try simp only [Act.put, pa, pb, pc])
          (refine tk 6 ?_; try simp only [Act.put, pa, pb, pc])
          (refine tk 7 ?_; try simp only [Act.put, pa, pb, pc])
          refine rd1 8 (fun K hK => ?_)
          go_simp
          have hbz : Below w27.heap.size w27 (w27.alloc (.cells #[.int .i64 0, .slice none 0 0] 38)) := below_alloc (Below.refl _ _) _
          have B0_z := B0_t70.next hbz
          have B1_z := B1_t70.next hbz
          have B2_z := B2_t70.next hbz
          have Bw_z := Bw_t70.next hbz
          have Bx0_z := Bx0_t70.next hbz
          have Bx1_z := Bx1_t70.next hbz
          refine hK.out _ _ ?_ (fun hHeld => ?_)
          focus ((try dsimp only); (exact ⟨by rw [B0_z.cell]; rfl, by rw [B0_z.cell]; rfl, by rw [B1_z.cell]; rfl, by rw [B1_z.cell]; rfl, by rw [B2_z.cell]; rfl, by rw [B2_z.cell]; rfl, by rw [B2_z.cell]; rfl, by rw [Bw_z.cell]; rfl, by rw [Bw_z.cell]; rfl, by rw [Bx0_z.cell]; rfl, by rw [Bx0_z.cell]; rfl, by rw [Bx1_z.cell]; rfl, by rw [Bx1_z.cell]; rfl⟩))
          clear hK K
          try simp only [Act.put, pa, pb, pc]
          have By_z := blkA w27 #[.int .i64 0, .slice none 0 0] 38
          have d0 : (w27.alloc (.cells #[.int .i64 0, .slice none 0 0] 38)).cell? ⟨w27.heap.size, 0, none⟩ = some (.int .i64 0) := (by rw [By_z.cell]; rfl)
          have d1 : (w27.alloc (.cells #[.int .i64 0, .slice none 0 0] 38)).cell? ⟨w27.heap.size, 1, none⟩ = some (.slice none 0 0) := (by rw [By_z.cell]; rfl)
          have f0 := By_z.free 0
          have f1 := By_z.free 1
          have HLT : Hid (∀ k, (Value.slice bG nG cG).ownBlock = some k → k < w27.heap.size) := Lib.hid (fun k hk => (G_n.block_lt hk).2)
          have hb_t71 := below_alloc (Below.refl _ w27) (.cells #[.int .i64 vz0, .slice bG nG cG] 38)
          have By_t71 := blkA w27 #[.int .i64 vz0, .slice bG nG cG] 38
          have hz_t71 : (w27.alloc (.cells #[.int .i64 vz0, .slice bG nG cG] 38)).heap.size = w27.heap.size + 1 := World.size_alloc _ _
          have W_t72 := W_t70.next hb_t71
          clear W_t70
          have X0_t72 := X0_t70.next hb_t71
          clear X0_t70
          have X1_t72 := X1_t70.next hb_t71
          clear X1_t70
          have G_t72 := G_n.next hb_t71
          clear G_n
          have B0_t72 := B0_t70.next hb_t71
          clear B0_t70
          have B1_t72 := B1_t70.next hb_t71
          clear B1_t70
          have B2_t72 := B2_t70.next hb_t71
          clear B2_t70
          have Bw_t72 := Bw_t70.next hb_t71
          clear Bw_t70
          have Bx0_t72 := Bx0_t70.next hb_t71
          clear Bx0_t70
          have Bx1_t72 := Bx1_t70.next hb_t71
          clear Bx1_t70
          have hw_t72 := below_next hw_t70 hb_t71
          have hs_t72 := hb_t71.size
          have hcL := below_alloc hcn27 (.cells #[.int .i64 vz0, .slice bG nG cG] 38)
          refine rd1 9 (fun K hK => ?_)
          go_simp
          refine hK.out _ _ ?_ (fun hHeld => ?_)
          focus ((try dsimp only); (exact ⟨by rw [B0_t72.cell]; rfl, by rw [B0_t72.cell]; rfl, by rw [B1_t72.cell]; rfl, by rw [B1_t72.cell]; rfl, by rw [B2_t72.cell]; rfl, by rw [B2_t72.cell]; rfl, by rw [B2_t72.cell]; rfl, by rw [Bw_t72.cell]; rfl, by rw [Bw_t72.cell]; rfl, by rw [Bx0_t72.cell]; rfl, by rw [Bx0_t72.cell]; rfl, by rw [Bx1_t72.cell]; rfl, by rw [Bx1_t72.cell]; rfl⟩))
          clear hK K d0 d1 f0 f1 By_z B0_z B1_z B2_z Bw_z Bx0_z Bx1_z
          try simp only [Act.put, pa, pb, pc]
          (refine tk 10 ?_; try simp only [Act.put, pa, pb, pc])
          refine wpAnyH_done (by kernel_rfl) ?_ _
          go_wp2
          go_meet
          case rel => exact ⟨_, _, _, _, rfl, rfl, By_t71, G_t72.low hcn26.size, hcn27.size, (fun k hk => by have := HLT.out k hk; omega), hcL⟩
        · go_simp
          obtain ⟨yb, HYb⟩ : ∃ yb, Hid (w26.heap.size = yb) := ⟨_, Lib.hid rfl⟩
          have ne_B0 : w.heap.size < yb := by have h1 := B0_t69.lt; have h3 := HYb.out; omega
          have ne_B1 : w.heap.size + 1 < yb := by have h1 := B1_t69.lt; have h3 := HYb.out; omega
          have ne_B2 : w.heap.size + 2 < yb := by have h1 := B2_t69.lt; have h3 := HYb.out; omega
          have ne_Bw : gW < yb := by have h1 := Bw_t69.lt; have h3 := HYb.out; omega
          have ne_Bx0 : w24.heap.size < yb := by have h1 := Bx0_t69.lt; have h3 := HYb.out; omega
          have ne_Bx1 : w25.heap.size < yb := by have h1 := Bx1_t69.lt; have h3 := HYb.out; omega
          have GG : Hid ((w25.alloc (.cells #[.int .i64 z1, .slice (some ⟨gX1, 0, none⟩) l1.length l1.length] 38)).heap.size ≤ yb) := Lib.hid (by have h1 := hcn26.size; have h3 := HYb.out; omega)
          have hcz := below_alloc hcn26 (.cells #[.int .i64 0, .slice none 0 0] 38)
          have hb_t70 := below_alloc (Below.refl _ w26) (.cells #[.int .i64 0, .slice none 0 0] 38)
          have By_t70 := blkA w26 #[.int .i64 0, .slice none 0 0] 38
          have hz_t70 : (w26.alloc (.cells #[.int .i64 0, .slice none 0 0] 38)).heap.size = w26.heap.size + 1 := World.size_alloc _ _
          have W_t71 := W_t69.next hb_t70
          clear W_t69
          have X0_t71 := X0_t69.next hb_t70
          clear X0_t69
          have X1_t71 := X1_t69.next hb_t70
          clear X1_t69
          have B0_t71 := B0_t69.next hb_t70
          clear B0_t69
          have B1_t71 := B1_t69.next hb_t70
          clear B1_t69
          have B2_t71 := B2_t69.next hb_t70
          clear B2_t69
          have Bw_t71 := Bw_t69.next hb_t70
          clear Bw_t69
          have Bx0_t71 := Bx0_t69.next hb_t70
          clear Bx0_t69
          have Bx1_t71 := Bx1_t69.next hb_t70
          clear Bx1_t69
          have hw_t71 := below_next hw_t69 hb_t70
          have hs_t71 := hb_t70.size
          refine hK.out _ _ ?_ (fun hHeld => ?_)
          focus ((try dsimp only); (exact ⟨by rw [B0_t71.cell]; rfl, by rw [B0_t71.cell]; rfl, by rw [B1_t71.cell]; rfl, by rw [B1_t71.cell]; rfl, by rw [B2_t71.cell]; rfl, by rw [B2_t71.cell]; rfl, by rw [B2_t71.cell]; rfl, by rw [Bw_t71.cell]; rfl, by rw [Bw_t71.cell]; rfl, by rw [Bx0_t71.cell]; rfl, by rw [Bx0_t71.cell]; rfl, by rw [Bx1_t71.cell]; rfl, by rw [Bx1_t71.cell]; rfl⟩))
          clear hK K
          try simp only [Act.put, pa, pb, pc]
          rw [HYb.out] at By_t70
          try rw [HYb.out]
          obtain ⟨we, HWE⟩ : ∃ we, Hid ((w26.alloc (.cells #[.int .i64 0, .slice none 0 0] 38)) = we) := ⟨_, Lib.hid rfl⟩
          rw [HWE.out] at hHeld hcz W_t71 X0_t71 X1_t71 B0_t71 B1_t71 B2_t71 Bw_t71 Bx0_t71 Bx1_t71 By_t70 hw_t71
          rw [HWE.out]
          refine rd1 4 (fun K hK => ?_)
          go_simp
          go_at_call 32
          have hgl := By_t70.lt
          refine (implWorkPutO X0_t71 X1_t71 hf0 hf1 hf2 hlen0 hlen1).mono ?_
          rw [HZ0.out, HV0.out, HV1.out]
          rintro e w27 ⟨VG, rfl, G_n, hb27⟩
          have HNE : Hid (∀ k, VG.ownBlock = some k → k ≠ yb) := Lib.hid (fun k hk => by have := (G_n.block_lt hk).1; omega)
          obtain ⟨bG, nG, cG, rfl⟩ := G_n.slice
          have W_t72 := W_t71.next hb27
          clear W_t71
          have X0_t72 := X0_t71.next hb27
          clear X0_t71
          have X1_t72 := X1_t71.next hb27
          clear X1_t71
          have B0_t72 := B0_t71.next hb27
          clear B0_t71
          have B1_t72 := B1_t71.next hb27
          clear B1_t71
          have B2_t72 := B2_t71.next hb27
          clear B2_t71
          have Bw_t72 := Bw_t71.next hb27
          clear Bw_t71
          have Bx0_t72 := Bx0_t71.next hb27
          clear Bx0_t71
          have Bx1_t72 := Bx1_t71.next hb27
          clear Bx1_t71
          have By_t72 := By_t70.next hb27
          clear By_t70
          have hw_t72 := below_next hw_t71 hb27
          have hs_t72 := hb27.size
          have hcn27 := below_next hcz hb27
          go_wp2_with fail
          refine hK.out _ _ ?_ (fun hHeld => ?_)
          focus ((try dsimp only); (exact ⟨by rw [B0_t72.cell]; rfl, by rw [B0_t72.cell]; rfl, by rw [B1_t72.cell]; rfl, by rw [B1_t72.cell]; rfl, by rw [B2_t72.cell]; rfl, by rw [B2_t72.cell]; rfl, by rw [B2_t72.cell]; rfl, by rw [Bw_t72.cell]; rfl, by rw [Bw_t72.cell]; rfl, by rw [Bx0_t72.cell]; rfl, by rw [Bx0_t72.cell]; rfl, by rw [Bx1_t72.cell]; rfl, by rw [Bx1_t72.cell]; rfl⟩))
          clear hK K
          try simp only [Act.put, pa, pb, pc]
          (refine tk 5 ?_; try simp only [Act.put, pa, pb, pc])
          (refine tk 6 ?_; try simp only [Act.put, pa, pb, pc])
          (refine tk 7 ?_; try simp only [Act.put, pa, pb, pc])
          have d0 : w27.cell? ⟨yb, 0, none⟩ = some (.int .i64 0) := (by rw [By_t72.cell]; rfl)
          have d1 : w27.cell? ⟨yb, 1, none⟩ = some (.slice none 0 0) := (by rw [By_t72.cell]; rfl)
          have f0 := By_t72.free 0
          have f1 := By_t72.free 1
          have B0_s := (B0_t72.setOther (a := ⟨yb, 0, none⟩) (show w.heap.size ≠ yb from by omega) (.int .i64 vz0)).setOther (a := ⟨yb, 1, none⟩) (show w.heap.size ≠ yb from by omega) (.slice bG nG cG)
          have B1_s := (B1_t72.setOther (a := ⟨yb, 0, none⟩) (show w.heap.size + 1 ≠ yb from by omega) (.int .i64 vz0)).setOther (a := ⟨yb, 1, none⟩) (show w.heap.size + 1 ≠ yb from by omega) (.slice bG nG cG)
          have B2_s := (B2_t72.setOther (a := ⟨yb, 0, none⟩) (show w.heap.size + 2 ≠ yb from by omega) (.int .i64 vz0)).setOther (a := ⟨yb, 1, none⟩) (show w.heap.size + 2 ≠ yb from by omega) (.slice bG nG cG)
          have Bw_s := (Bw_t72.setOther (a := ⟨yb, 0, none⟩) (show gW ≠ yb from by omega) (.int .i64 vz0)).setOther (a := ⟨yb, 1, none⟩) (show gW ≠ yb from by omega) (.slice bG nG cG)
          have Bx0_s := (Bx0_t72.setOther (a := ⟨yb, 0, none⟩) (show w24.heap.size ≠ yb from by omega) (.int .i64 vz0)).setOther (a := ⟨yb, 1, none⟩) (show w24.heap.size ≠ yb from by omega) (.slice bG nG cG)
          have Bx1_s := (Bx1_t72.setOther (a := ⟨yb, 0, none⟩) (show w25.heap.size ≠ yb from by omega) (.int .i64 vz0)).setOther (a := ⟨yb, 1, none⟩) (show w25.heap.size ≠ yb from by omega) (.slice bG nG cG)
          have By_s := (By_t72.set_ 0 (.int .i64 vz0)).set_ 1 (.slice bG nG cG)
          have p_s := (G_n.setCell (a := ⟨yb, 0, none⟩) HNE.out (.int .i64 vz0)).setCell (a := ⟨yb, 1, none⟩) HNE.out (.slice bG nG cG)
          have hcL : Below (w25.alloc (.cells #[.int .i64 z1, .slice (some ⟨gX1, 0, none⟩) l1.length l1.length] 38)).heap.size (w25.alloc (.cells #[.int .i64 z1, .slice (some ⟨gX1, 0, none⟩) l1.length l1.length] 38)) ((w27.setCell ⟨yb, 0, none⟩ (.int .i64 vz0)).setCell ⟨yb, 1, none⟩ (.slice bG nG cG)) := (hcn27.setCell (show (w25.alloc (.cells #[.int .i64 z1, .slice (some ⟨gX1, 0, none⟩) l1.length l1.length] 38)).heap.size ≤ yb from GG.out) _).setCell (show (w25.alloc (.cells #[.int .i64 z1, .slice (some ⟨gX1, 0, none⟩) l1.length l1.length] 38)).heap.size ≤ yb from GG.out) _
          refine rd1 9 (fun K hK => ?_)
          go_simp
          refine hK.out _ _ ?_ (fun hHeld => ?_)
          focus ((try dsimp only); (exact ⟨by rw [B0_s.cell]; rfl, by rw [B0_s.cell]; rfl, by rw [B1_s.cell]; rfl, by rw [B1_s.cell]; rfl, by rw [B2_s.cell]; rfl, by rw [B2_s.cell]; rfl, by rw [B2_s.cell]; rfl, by rw [Bw_s.cell]; rfl, by rw [Bw_s.cell]; rfl, by rw [Bx0_s.cell]; rfl, by rw [Bx0_s.cell]; rfl, by rw [Bx1_s.cell]; rfl, by rw [Bx1_s.cell]; rfl⟩))
          clear hK K d0 d1 f0 f1
          try simp only [Act.put, pa, pb, pc]
          (refine tk 10 ?_; try simp only [Act.put, pa, pb, pc])
          refine wpAnyH_done (by kernel_rfl) ?_ _
          go_wp2
          go_meet
          case rel => exact ⟨_, bG, nG, cG, rfl, rfl, By_s.cast rfl, p_s.low hcz.size, GG.out, HNE.out, hcL⟩
      · go_simp
        obtain ⟨yb, HYb⟩ : ∃ yb, Hid (wd.heap.size = yb) := ⟨_, Lib.hid rfl⟩
        have ne_B0 : w.heap.size < yb := by have h1 := B0_t68.lt; have h3 := HYb.out; omega
        have ne_B1 : w.heap.size + 1 < yb := by have h1 := B1_t68.lt; have h3 := HYb.out; omega
        have ne_B2 : w.heap.size + 2 < yb := by have h1 := B2_t68.lt; have h3 := HYb.out; omega
        have ne_Bw : gW < yb := by have h1 := Bw_t68.lt; have h3 := HYb.out; omega
        have ne_Bx0 : w24.heap.size < yb := by have h1 := Bx0_t68.lt; have h3 := HYb.out; omega
        have ne_Bx1 : w25.heap.size < yb := by have h1 := Bx1_t68.lt; have h3 := HYb.out; omega
        have GG : Hid ((w25.alloc (.cells #[.int .i64 z1, .slice (some ⟨gX1, 0, none⟩) l1.length l1.length] 38)).heap.size ≤ yb) := Lib.hid (by have h1 := hc_t67.size; have h3 := HYb.out; omega)
        have hcz := below_alloc hc_t67 (.cells #[.int .i64 0, .slice none 0 0] 38)
        have hb_t69 := below_alloc (Below.refl _ wd) (.cells #[.int .i64 0, .slice none 0 0] 38)
        have By_t69 := blkA wd #[.int .i64 0, .slice none 0 0] 38
        have hz_t69 : (wd.alloc (.cells #[.int .i64 0, .slice none 0 0] 38)).heap.size = wd.heap.size + 1 := World.size_alloc _ _
        have W_t70 := W_t68.next hb_t69
        clear W_t68
        have X0_t70 := X0_t68.next hb_t69
        clear X0_t68
        have X1_t70 := X1_t68.next hb_t69
        clear X1_t68
        have B0_t70 := B0_t68.next hb_t69
        clear B0_t68
        have B1_t70 := B1_t68.next hb_t69
        clear B1_t68
        have B2_t70 := B2_t68.next hb_t69
        clear B2_t68
        have Bw_t70 := Bw_t68.next hb_t69
        clear Bw_t68
        have Bx0_t70 := Bx0_t68.next hb_t69
        clear Bx0_t68
        have Bx1_t70 := Bx1_t68.next hb_t69
        clear Bx1_t68
        have hw_t70 := below_next hw_t68 hb_t69
        have hs_t70 := hb_t69.size
        refine hK.out _ _ ?_ (fun hHeld => ?_)
        focus ((try dsimp only); (exact ⟨by rw [B0_t70.cell]; rfl, by rw [B0_t70.cell]; rfl, by rw [B1_t70.cell]; rfl, by rw [B1_t70.cell]; rfl, by rw [B2_t70.cell]; rfl, by rw [B2_t70.cell]; rfl, by rw [B2_t70.cell]; rfl, by rw [Bw_t70.cell]; rfl, by rw [Bw_t70.cell]; rfl, by rw [Bx0_t70.cell]; rfl, by rw [Bx0_t70.cell]; rfl, by rw [Bx1_t70.cell]; rfl, by rw [Bx1_t70.cell]; rfl⟩))
        clear hK K
        try simp only [Act.put, pa, pb, pc]
        rw [HYb.out] at By_t69
        try rw [HYb.out]
        obtain ⟨we, HWE⟩ : ∃ we, Hid ((wd.alloc (.cells #[.int .i64 0, .slice none 0 0] 38)) = we) := ⟨_, Lib.hid rfl⟩
        rw [HWE.out] at hHeld hcz W_t70 X0_t70 X1_t70 B0_t70 B1_t70 B2_t70 Bw_t70 Bx0_t70 Bx1_t70 By_t69 hw_t70
        rw [HWE.out]
        refine rd1 3 (fun K hK => ?_)
        go_simp
        go_at_call 31
        refine (toWrite_c x2 _).mono ?_
        rintro e w26 ⟨rfl, hb26⟩
        have W_t71 := W_t70.next hb26
        clear W_t70
        have X0_t71 := X0_t70.next hb26
        clear X0_t70
        have X1_t71 := X1_t70.next hb26
        clear X1_t70
        have B0_t71 := B0_t70.next hb26
        clear B0_t70
        have B1_t71 := B1_t70.next hb26
        clear B1_t70
        have B2_t71 := B2_t70.next hb26
        clear B2_t70
        have Bw_t71 := Bw_t70.next hb26
        clear Bw_t70
        have Bx0_t71 := Bx0_t70.next hb26
        clear Bx0_t70
        have Bx1_t71 := Bx1_t70.next hb26
        clear Bx1_t70
        have By_t71 := By_t69.next hb26
        clear By_t69
        have hw_t71 := below_next hw_t70 hb26
        have hs_t71 := hb26.size
        have hcn26 := below_next hcz hb26
        go_wp2_with fail
        refine hK.out _ _ ?_ (fun hHeld => ?_)
        focus ((try dsimp only); (exact ⟨by rw [B0_t71.cell]; rfl, by rw [B0_t71.cell]; rfl, by rw [B1_t71.cell]; rfl, by rw [B1_t71.cell]; rfl, by rw [B2_t71.cell]; rfl, by rw [B2_t71.cell]; rfl, by rw [B2_t71.cell]; rfl, by rw [Bw_t71.cell]; rfl, by rw [Bw_t71.cell]; rfl, by rw [Bx0_t71.cell]; rfl, by rw [Bx0_t71.cell]; rfl, by rw [Bx1_t71.cell]; rfl, by rw [Bx1_t71.cell]; rfl⟩))
        clear hK K
        try simp only [Act.put, pa, pb, pc]
        refine rd1 4 (fun K hK => ?_)
        go_simp
        go_at_call 32
        have hgl := By_t71.lt
        refine (implWorkPutO X0_t71 X1_t71 hf0 hf1 hf2 hlen0 hlen1).mono ?_
        rw [HZ0.out, HV0.out, HV1.out]
        rintro e w27 ⟨VG, rfl, G_n, hb27⟩
        have HNE : Hid (∀ k, VG.ownBlock = some k → k ≠ yb) := Lib.hid (fun k hk => by have := (G_n.block_lt hk).1; omega)
        obtain ⟨bG, nG, cG, rfl⟩ := G_n.slice
        have W_t72 := W_t71.next hb27
        clear W_t71
        have X0_t72 := X0_t71.next hb27
        clear X0_t71
        have X1_t72 := X1_t71.next hb27
        clear X1_t71
        have B0_t72 := B0_t71.next hb27
        clear B0_t71
        have B1_t72 := B1_t71.next hb27
        clear B1_t71
        have B2_t72 := B2_t71.next hb27
        clear B2_t71
        have Bw_t72 := Bw_t71.next hb27
        clear Bw_t71
        have Bx0_t72 := Bx0_t71.next hb27
        clear Bx0_t71
        have Bx1_t72 := Bx1_t71.next hb27
        clear Bx1_t71
        have By_t72 := By_t71.next hb27
        clear By_t71
        have hw_t72 := below_next hw_t71 hb27
        have hs_t72 := hb27.size
        have hcn27 := below_next hcn26 hb27
        go_wp2_with fail
        refine hK.out _ _ ?_ (fun hHeld => ?_)
        focus ((try dsimp only); (exact ⟨by rw [B0_t72.cell]; rfl, by rw [B0_t72.cell]; rfl, by rw [B1_t72.cell]; rfl, by rw [B1_t72.cell]; rfl, by rw [B2_t72.cell]; rfl, by rw [B2_t72.cell]; rfl, by rw [B2_t72.cell]; rfl, by rw [Bw_t72.cell]; rfl, by rw [Bw_t72.cell]; rfl, by rw [Bx0_t72.cell]; rfl, by rw [Bx0_t72.cell]; rfl, by rw [Bx1_t72.cell]; rfl, by rw [Bx1_t72.cell]; rfl⟩))
        clear hK K
        try simp only [Act.put, pa, pb, pc]
        (refine tk 5 ?_; try simp only [Act.put, pa, pb, pc])
        (refine tk 6 ?_; try simp only [Act.put, pa, pb, pc])
        (refine tk 7 ?_; try simp only [Act.put, pa, pb, pc])
        have d0 : w27.cell? ⟨yb, 0, none⟩ = some (.int .i64 0) := (by rw [By_t72.cell]; rfl)
        have d1 : w27.cell? ⟨yb, 1, none⟩ = some (.slice none 0 0) := (by rw [By_t72.cell]; rfl)
        have f0 := By_t72.free 0
        have f1 := By_t72.free 1
        have B0_s := (B0_t72.setOther (a := ⟨yb, 0, none⟩) (show w.heap.size ≠ yb from by omega) (.int .i64 vz0)).setOther (a := ⟨yb, 1, none⟩) (show w.heap.size ≠ yb from by omega) (.slice bG nG cG)
        have B1_s := (B1_t72.setOther (a := ⟨yb, 0, none⟩) (show w.heap.size + 1 ≠ yb from by omega) (.int .i64 vz0)).setOther (a := ⟨yb, 1, none⟩) (show w.heap.size + 1 ≠ yb from by omega) (.slice bG nG cG)
        have B2_s := (B2_t72.setOther (a := ⟨yb, 0, none⟩) (show w.heap.size + 2 ≠ yb from by omega) (.int .i64 vz0)).setOther (a := ⟨yb, 1, none⟩) (show w.heap.size + 2 ≠ yb from by omega) (.slice bG nG cG)
        have Bw_s := (Bw_t72.setOther (a := ⟨yb, 0, none⟩) (show gW ≠ yb from by omega) (.int .i64 vz0)).setOther (a := ⟨yb, 1, none⟩) (show gW ≠ yb from by omega) (.slice bG nG cG)
        have Bx0_s := (Bx0_t72.setOther (a := ⟨yb, 0, none⟩) (show w24.heap.size ≠ yb from by omega) (.int .i64 vz0)).setOther (a := ⟨yb, 1, none⟩) (show w24.heap.size ≠ yb from by omega) (.slice bG nG cG)
        have Bx1_s := (Bx1_t72.setOther (a := ⟨yb, 0, none⟩) (show w25.heap.size ≠ yb from by omega) (.int .i64 vz0)).setOther (a := ⟨yb, 1, none⟩) (show w25.heap.size ≠ yb from by omega) (.slice bG nG cG)
        have By_s := (By_t72.set_ 0 (.int .i64 vz0)).set_ 1 (.slice bG nG cG)
        have p_s := (G_n.setCell (a := ⟨yb, 0, none⟩) HNE.out (.int .i64 vz0)).setCell (a := ⟨yb, 1, none⟩) HNE.out (.slice bG nG cG)
        have hcL : Below (w25.alloc (.cells #[.int .i64 z1, .slice (some ⟨gX1, 0, none⟩) l1.length l1.length] 38)).heap.size (w25.alloc (.cells #[.int .i64 z1, .slice (some ⟨gX1, 0, none⟩) l1.length l1.length] 38)) ((w27.setCell ⟨yb, 0, none⟩ (.int .i64 vz0)).setCell ⟨yb, 1, none⟩ (.slice bG nG cG)) := (hcn27.setCell (show (w25.alloc (.cells #[.int .i64 z1, .slice (some ⟨gX1, 0, none⟩) l1.length l1.length] 38)).heap.size ≤ yb from GG.out) _).setCell (show (w25.alloc (.cells #[.int .i64 z1, .slice (some ⟨gX1, 0, none⟩) l1.length l1.length] 38)).heap.size ≤ yb from GG.out) _
        refine rd1 9 (fun K hK => ?_)
        go_simp
        refine hK.out _ _ ?_ (fun hHeld => ?_)
        focus ((try dsimp only); (exact ⟨by rw [B0_s.cell]; rfl, by rw [B0_s.cell]; rfl, by rw [B1_s.cell]; rfl, by rw [B1_s.cell]; rfl, by rw [B2_s.cell]; rfl, by rw [B2_s.cell]; rfl, by rw [B2_s.cell]; rfl, by rw [Bw_s.cell]; rfl, by rw [Bw_s.cell]; rfl, by rw [Bx0_s.cell]; rfl, by rw [Bx0_s.cell]; rfl, by rw [Bx1_s.cell]; rfl, by rw [Bx1_s.cell]; rfl⟩))
        clear hK K d0 d1 f0 f1
        try simp only [Act.put, pa, pb, pc]
        (refine tk 10 ?_; try simp only [Act.put, pa, pb, pc])
        refine wpAnyH_done (by kernel_rfl) ?_ _
        go_wp2
        go_meet
        case rel => exact ⟨_, bG, nG, cG, rfl, rfl, By_s.cast rfl, p_s.low hcn26.size, GG.out, HNE.out, hcL⟩
    case rest =>
      obtain ⟨gG, bG, nG, cG, rfl, rfl, Bg_c, G_n, hgg_G, hne_G, hbc_G⟩ := hcut
      obtain ⟨wcG, HWCG⟩ : ∃ x, Hid (wc = x) := ⟨_, Lib.hid rfl⟩
      rw [HWCG.out] at Bg_c G_n hbc_G
      rw [HWCG.out]
      have W_t117 := W_t66.next hbc_G
      clear W_t66
      have X0_t117 := X0_t66.next hbc_G
      clear X0_t66
      have X1_t117 := X1_t66.next hbc_G
      clear X1_t66
      have B0_t117 := B0_t66.next hbc_G
      clear B0_t66
      have B1_t117 := B1_t66.next hbc_G
      clear B1_t66
      have B2_t117 := B2_t66.next hbc_G
      clear B2_t66
      have Bw_t117 := Bw_t66.next hbc_G
      clear Bw_t66
      have Bx0_t117 := Bx0_t66.next hbc_G
      clear Bx0_t66
      have Bx1_t117 := Bx1_t65.next hbc_G
      clear Bx1_t65
      have hw_t117 := below_next hw_t66 hbc_G
      have hs_t117 := hbc_G.size
      have ge_G : ∀ g, (Value.slice bG nG cG).ownBlock = some g → (w25.alloc (.cells #[.int .i64 z1, .slice (some ⟨gX1, 0, none⟩) l1.length l1.length] 38)).heap.size ≤ g := fun g hg => (G_n.block_lt hg).1
      have lt_G : ∀ g, (Value.slice bG nG cG).ownBlock = some g → g < wcG.heap.size := fun g hg => (G_n.block_lt hg).2
      have hgl_G := Bg_c.lt
      have qB00 : wcG.cell? ⟨w.heap.size, 0, none⟩ = some (.int .i64 z0) := by rw [B0_t117.cell]; rfl
      have qB01 : wcG.cell? ⟨w.heap.size, 1, none⟩ = some (.slice A0 l0.length c0) := by rw [B0_t117.cell]; rfl
      have qB10 : wcG.cell? ⟨w.heap.size + 1, 0, none⟩ = some (.int .i64 z1) := by rw [B1_t117.cell]; rfl
      have qB11 : wcG.cell? ⟨w.heap.size + 1, 1, none⟩ = some (.slice A1 l1.length c1) := by rw [B1_t117.cell]; rfl
      have qB20 : wcG.cell? ⟨w.heap.size + 2, 0, none⟩ = some (.string x2.k) := by rw [B2_t117.cell]; rfl
      have qB21 : wcG.cell? ⟨w.heap.size + 2, 1, none⟩ = some (.int .i64 x2.n) := by rw [B2_t117.cell]; rfl
      have qB22 : wcG.cell? ⟨w.heap.size + 2, 2, none⟩ = some (.bool x2.g) := by rw [B2_t117.cell]; rfl
      have qBw0 : wcG.cell? ⟨gW, 0, none⟩ = some (.int .i64 vz0) := by rw [Bw_t117.cell]; rfl
      have qBw1 : wcG.cell? ⟨gW, 1, none⟩ = some (.slice bW nW cW) := by rw [Bw_t117.cell]; rfl
      have qBx00 : wcG.cell? ⟨w24.heap.size, 0, none⟩ = some (.int .i64 z0) := by rw [Bx0_t117.cell]; rfl
      have qBx01 : wcG.cell? ⟨w24.heap.size, 1, none⟩ = some (.slice (some ⟨gX0, 0, none⟩) l0.length l0.length) := by rw [Bx0_t117.cell]; rfl
      have qBx10 : wcG.cell? ⟨w25.heap.size, 0, none⟩ = some (.int .i64 z1) := by rw [Bx1_t117.cell]; rfl
      have qBx11 : wcG.cell? ⟨w25.heap.size, 1, none⟩ = some (.slice (some ⟨gX1, 0, none⟩) l1.length l1.length) := by rw [Bx1_t117.cell]; rfl
      have qBg0 : wcG.cell? ⟨gG, 0, none⟩ = some (.int .i64 vz0) := by rw [Bg_c.cell]; rfl
      have qBg1 : wcG.cell? ⟨gG, 1, none⟩ = some (.slice bG nG cG) := by rw [Bg_c.cell]; rfl
      go_wp2_with fail
      clear qB00 qB01 qB10 qB11 qB20 qB21 qB22 qBw0 qBw1 qBx00 qBx01 qBx10 qBx11 qBg0 qBg1
      refine (eqWork_c vz0 vz0 _ _ vl0 vl0 _ _ _ G_n W_t117 (by omega) (by omega)).mono ?_
      rintro e w46 ⟨rfl, hb46⟩
      rw [HE0.out]
      have W_t118 := W_t117.next hb46
      clear W_t117
      have X0_t118 := X0_t117.next hb46
      clear X0_t117
      have X1_t118 := X1_t117.next hb46
      clear X1_t117
      have G_t118 := G_n.next hb46
      clear G_n
      have B0_t118 := B0_t117.next hb46
      clear B0_t117
      have B1_t118 := B1_t117.next hb46
      clear B1_t117
      have B2_t118 := B2_t117.next hb46
      clear B2_t117
      have Bw_t118 := Bw_t117.next hb46
      clear Bw_t117
      have Bx0_t118 := Bx0_t117.next hb46
      clear Bx0_t117
      have Bx1_t118 := Bx1_t117.next hb46
      clear Bx1_t117
      have Bg_t118 := Bg_c.next hb46
      clear Bg_c
      have hw_t118 := below_next hw_t117 hb46
      have hs_t118 := hb46.size
      have qB00 : w46.cell? ⟨w.heap.size, 0, none⟩ = some (.int .i64 z0) := by rw [B0_t118.cell]; rfl
      have qB01 : w46.cell? ⟨w.heap.size, 1, none⟩ = some (.slice A0 l0.length c0) := by rw [B0_t118.cell]; rfl
      have qB10 : w46.cell? ⟨w.heap.size + 1, 0, none⟩ = some (.int .i64 z1) := by rw [B1_t118.cell]; rfl
      have qB11 : w46.cell? ⟨w.heap.size + 1, 1, none⟩ = some (.slice A1 l1.length c1) := by rw [B1_t118.cell]; rfl
      have qB20 : w46.cell? ⟨w.heap.size + 2, 0, none⟩ = some (.string x2.k) := by rw [B2_t118.cell]; rfl
      have qB21 : w46.cell? ⟨w.heap.size + 2, 1, none⟩ = some (.int .i64 x2.n) := by rw [B2_t118.cell]; rfl
      have qB22 : w46.cell? ⟨w.heap.size + 2, 2, none⟩ = some (.bool x2.g) := by rw [B2_t118.cell]; rfl
      have qBw0 : w46.cell? ⟨gW, 0, none⟩ = some (.int .i64 vz0) := by rw [Bw_t118.cell]; rfl
      have qBw1 : w46.cell? ⟨gW, 1, none⟩ = some (.slice bW nW cW) := by rw [Bw_t118.cell]; rfl
      have qBx00 : w46.cell? ⟨w24.heap.size, 0, none⟩ = some (.int .i64 z0) := by rw [Bx0_t118.cell]; rfl
      have qBx01 : w46.cell? ⟨w24.heap.size, 1, none⟩ = some (.slice (some ⟨gX0, 0, none⟩) l0.length l0.length) := by rw [Bx0_t118.cell]; rfl
      have qBx10 : w46.cell? ⟨w25.heap.size, 0, none⟩ = some (.int .i64 z1) := by rw [Bx1_t118.cell]; rfl
      have qBx11 : w46.cell? ⟨w25.heap.size, 1, none⟩ = some (.slice (some ⟨gX1, 0, none⟩) l1.length l1.length) := by rw [Bx1_t118.cell]; rfl
      have qBg0 : w46.cell? ⟨gG, 0, none⟩ = some (.int .i64 vz0) := by rw [Bg_t118.cell]; rfl
      have qBg1 : w46.cell? ⟨gG, 1, none⟩ = some (.slice bG nG cG) := by rw [Bg_t118.cell]; rfl
      go_wp2
      clear qB00 qB01 qB10 qB11 qB20 qB21 qB22 qBw0 qBw1 qBx00 qBx01 qBx10 qBx11 qBg0 qBg1
      have hb_t119 : Below w46.heap.size w46 w46.drew := (Below.refl _ _).drew
      have W_t120 := W_t118.next hb_t119
      clear W_t118
      have X0_t120 := X0_t118.next hb_t119
      clear X0_t118
      have X1_t120 := X1_t118.next hb_t119
      clear X1_t118
      have G_t120 := G_t118.next hb_t119
      clear G_t118
      have B0_t120 := B0_t118.next hb_t119
      clear B0_t118
      have B1_t120 := B1_t118.next hb_t119
      clear B1_t118
      have B2_t120 := B2_t118.next hb_t119
      clear B2_t118
      have Bw_t120 := Bw_t118.next hb_t119
      clear Bw_t118
      have Bx0_t120 := Bx0_t118.next hb_t119
      clear Bx0_t118
      have Bx1_t120 := Bx1_t118.next hb_t119
      clear Bx1_t118
      have Bg_t120 := Bg_t118.next hb_t119
      clear Bg_t118
      have hw_t120 := below_next hw_t118 hb_t119
      have hs_t120 := hb_t119.size
      refine wp_region_held_drew (S := (fun W => W.cell? ⟨w.heap.size, 0, none⟩ = some (.int .i64 z0) ∧ W.cell? ⟨w.heap.size, 1, none⟩ = some (.slice A0 l0.length c0) ∧ W.cell? ⟨w.heap.size + 1, 0, none⟩ = some (.int .i64 z1) ∧ W.cell? ⟨w.heap.size + 1, 1, none⟩ = some (.slice A1 l1.length c1) ∧ W.cell? ⟨w.heap.size + 2, 0, none⟩ = some (.string x2.k) ∧ W.cell? ⟨w.heap.size + 2, 1, none⟩ = some (.int .i64 x2.n) ∧ W.cell? ⟨w.heap.size + 2, 2, none⟩ = some (.bool x2.g) ∧ W.cell? ⟨gW, 0, none⟩ = some (.int .i64 vz0) ∧ W.cell? ⟨gW, 1, none⟩ = some (.slice bW nW cW) ∧ W.cell? ⟨w24.heap.size, 0, none⟩ = some (.int .i64 z0) ∧ W.cell? ⟨w24.heap.size, 1, none⟩ = some (.slice (some ⟨gX0, 0, none⟩) l0.length l0.length) ∧ W.cell? ⟨w25.heap.size, 0, none⟩ = some (.int .i64 z1) ∧ W.cell? ⟨w25.heap.size, 1, none⟩ = some (.slice (some ⟨gX1, 0, none⟩) l1.length l1.length) ∧ W.cell? ⟨gG, 0, none⟩ = some (.int .i64 vz0) ∧ W.cell? ⟨gG, 1, none⟩ = some (.slice bG nG cG))) (by kernel_rfl) ?_ (fun hHeld => ?_)
      focus ((try dsimp only); (exact ⟨by rw [B0_t120.cell]; rfl, by rw [B0_t120.cell]; rfl, by rw [B1_t120.cell]; rfl, by rw [B1_t120.cell]; rfl, by rw [B2_t120.cell]; rfl, by rw [B2_t120.cell]; rfl, by rw [B2_t120.cell]; rfl, by rw [Bw_t120.cell]; rfl, by rw [Bw_t120.cell]; rfl, by rw [Bx0_t120.cell]; rfl, by rw [Bx0_t120.cell]; rfl, by rw [Bx1_t120.cell]; rfl, by rw [Bx1_t120.cell]; rfl, by rw [Bg_t120.cell]; rfl, by rw [Bg_t120.cell]; rfl⟩))
      (refine tk 0 ?_; try simp only [Act.put, pa, pb, pc])
      (refine tk 1 ?_; try simp only [Act.put, pa, pb, pc])
      (refine rd1 2 (fun K hK => ?_); go_simp; (go_at_call 19; refine (toVers_c z0 A0 c0 l0 _ hc0 hlen0 ((hr0.below hw_t120).more hw_t120.size)).mono ?_; rintro e w47 ⟨gZ0, rfl, Z0_n, ge_Z00, lt_Z00, hb47⟩; have W_t121 := W_t120.next hb47; clear W_t120; have X0_t121 := X0_t120.next hb47; clear X0_t120; have X1_t121 := X1_t120.next hb47; clear X1_t120; have G_t121 := G_t120.next hb47; clear G_t120; have B0_t121 := B0_t120.next hb47; clear B0_t120; have B1_t121 := B1_t120.next hb47; clear B1_t120; have B2_t121 := B2_t120.next hb47; clear B2_t120; have Bw_t121 := Bw_t120.next hb47; clear Bw_t120; have Bx0_t121 := Bx0_t120.next hb47; clear Bx0_t120; have Bx1_t121 := Bx1_t120.next hb47; clear Bx1_t120; have Bg_t121 := Bg_t120.next hb47; clear Bg_t120; have hw_t121 := below_next hw_t120 hb47; have hs_t121 := hb47.size; have ge_Z0 : ∀ g, (Value.slice (some ⟨gZ0, 0, none⟩) l0.length l0.length).ownBlock = some g → (w46.drew).heap.size ≤ g := fun g hg => (by have : gZ0 = g := Option.some.inj hg; omega); have lt_Z0 : ∀ g, (Value.slice (some ⟨gZ0, 0, none⟩) l0.length l0.length).ownBlock = some g → g < w47.heap.size := fun g hg => (by have : gZ0 = g := Option.some.inj hg; omega); clear ge_Z00 lt_Z00); go_wp2_with fail; refine hK.out _ _ ?_ (fun hHeld => ?_); (focus ((try dsimp only); (exact ⟨by rw [B0_t121.cell]; rfl, by rw [B0_t121.cell]; rfl, by rw [B1_t121.cell]; rfl, by rw [B1_t121.cell]; rfl, by rw [B2_t121.cell]; rfl, by rw [B2_t121.cell]; rfl, by rw [B2_t121.cell]; rfl, by rw [Bw_t121.cell]; rfl, by rw [Bw_t121.cell]; rfl, by rw [Bx0_t121.cell]; rfl, by rw [Bx0_t121.cell]; rfl, by rw [Bx1_t121.cell]; rfl, by rw [Bx1_t121.cell]; rfl, by rw [Bg_t121.cell]; rfl, by rw [Bg_t121.cell]; rfl⟩))); clear hK K; (try simp only [Act.put, pa, pb, pc]))
      (refine rd1 3 (fun K hK => ?_); go_simp; (go_at_call 23; refine (eqVers_c z0 z0 _ _ l0 l0 _ _ _ X0_t121 Z0_n (by omega) (by omega)).mono ?_; rintro e w48 ⟨rfl, hb48⟩; rw [HA0.out]; have W_t122 := W_t121.next hb48; clear W_t121; have X0_t122 := X0_t121.next hb48; clear X0_t121; have X1_t122 := X1_t121.next hb48; clear X1_t121; have G_t122 := G_t121.next hb48; clear G_t121; have Z0_t122 := Z0_n.next hb48; clear Z0_n; have B0_t122 := B0_t121.next hb48; clear B0_t121; have B1_t122 := B1_t121.next hb48; clear B1_t121; have B2_t122 := B2_t121.next hb48; clear B2_t121; have Bw_t122 := Bw_t121.next hb48; clear Bw_t121; have Bx0_t122 := Bx0_t121.next hb48; clear Bx0_t121; have Bx1_t122 := Bx1_t121.next hb48; clear Bx1_t121; have Bg_t122 := Bg_t121.next hb48; clear Bg_t121; have hw_t122 := below_next hw_t121 hb48; have hs_t122 := hb48.size); go_wp2_with fail; refine hK.out _ _ ?_ (fun hHeld => ?_); (focus ((try dsimp only); (exact ⟨by rw [B0_t122.cell]; rfl, by rw [B0_t122.cell]; rfl, by rw [B1_t122.cell]; rfl, by rw [B1_t122.cell]; rfl, by rw [B2_t122.cell]; rfl, by rw [B2_t122.cell]; rfl, by rw [B2_t122.cell]; rfl, by rw [Bw_t122.cell]; rfl, by rw [Bw_t122.cell]; rfl, by rw [Bx0_t122.cell]; rfl, by rw [Bx0_t122.cell]; rfl, by rw [Bx1_t122.cell]; rfl, by rw [Bx1_t122.cell]; rfl, by rw [Bg_t122.cell]; rfl, by rw [Bg_t122.cell]; rfl⟩))); clear hK K; (try simp only [Act.put, pa, pb, pc]))
      (refine tk 4 ?_; try simp only [Act.put, pa, pb, pc])
      refine wpAnyH_done (by kernel_rfl) ?_ _
      clear Z0_t122
      have qB00 : w48.cell? ⟨w.heap.size, 0, none⟩ = some (.int .i64 z0) := by rw [B0_t122.cell]; rfl
      have qB01 : w48.cell? ⟨w.heap.size, 1, none⟩ = some (.slice A0 l0.length c0) := by rw [B0_t122.cell]; rfl
      have qB10 : w48.cell? ⟨w.heap.size + 1, 0, none⟩ = some (.int .i64 z1) := by rw [B1_t122.cell]; rfl
      have qB11 : w48.cell? ⟨w.heap.size + 1, 1, none⟩ = some (.slice A1 l1.length c1) := by rw [B1_t122.cell]; rfl
      have qB20 : w48.cell? ⟨w.heap.size + 2, 0, none⟩ = some (.string x2.k) := by rw [B2_t122.cell]; rfl
      have qB21 : w48.cell? ⟨w.heap.size + 2, 1, none⟩ = some (.int .i64 x2.n) := by rw [B2_t122.cell]; rfl
      have qB22 : w48.cell? ⟨w.heap.size + 2, 2, none⟩ = some (.bool x2.g) := by rw [B2_t122.cell]; rfl
      have qBw0 : w48.cell? ⟨gW, 0, none⟩ = some (.int .i64 vz0) := by rw [Bw_t122.cell]; rfl
      have qBw1 : w48.cell? ⟨gW, 1, none⟩ = some (.slice bW nW cW) := by rw [Bw_t122.cell]; rfl
      have qBx00 : w48.cell? ⟨w24.heap.size, 0, none⟩ = some (.int .i64 z0) := by rw [Bx0_t122.cell]; rfl
      have qBx01 : w48.cell? ⟨w24.heap.size, 1, none⟩ = some (.slice (some ⟨gX0, 0, none⟩) l0.length l0.length) := by rw [Bx0_t122.cell]; rfl
      have qBx10 : w48.cell? ⟨w25.heap.size, 0, none⟩ = some (.int .i64 z1) := by rw [Bx1_t122.cell]; rfl
      have qBx11 : w48.cell? ⟨w25.heap.size, 1, none⟩ = some (.slice (some ⟨gX1, 0, none⟩) l1.length l1.length) := by rw [Bx1_t122.cell]; rfl
      have qBg0 : w48.cell? ⟨gG, 0, none⟩ = some (.int .i64 vz0) := by rw [Bg_t122.cell]; rfl
      have qBg1 : w48.cell? ⟨gG, 1, none⟩ = some (.slice bG nG cG) := by rw [Bg_t122.cell]; rfl
      go_wp2
      clear qB00 qB01 qB10 qB11 qB20 qB21 qB22 qBw0 qBw1 qBx00 qBx01 qBx10 qBx11 qBg0 qBg1
      have hb_t123 : Below w48.heap.size w48 w48.drew := (Below.refl _ _).drew
      have W_t124 := W_t122.next hb_t123
      clear W_t122
      have X0_t124 := X0_t122.next hb_t123
      clear X0_t122
      have X1_t124 := X1_t122.next hb_t123
      clear X1_t122
      have G_t124 := G_t122.next hb_t123
      clear G_t122
      have B0_t124 := B0_t122.next hb_t123
      clear B0_t122
      have B1_t124 := B1_t122.next hb_t123
      clear B1_t122
      have B2_t124 := B2_t122.next hb_t123
      clear B2_t122
      have Bw_t124 := Bw_t122.next hb_t123
      clear Bw_t122
      have Bx0_t124 := Bx0_t122.next hb_t123
      clear Bx0_t122
      have Bx1_t124 := Bx1_t122.next hb_t123
      clear Bx1_t122
      have Bg_t124 := Bg_t122.next hb_t123
      clear Bg_t122
      have hw_t124 := below_next hw_t122 hb_t123
      have hs_t124 := hb_t123.size
      refine wp_region_held_drew (S := (fun W => W.cell? ⟨w.heap.size, 0, none⟩ = some (.int .i64 z0) ∧ W.cell? ⟨w.heap.size, 1, none⟩ = some (.slice A0 l0.length c0) ∧ W.cell? ⟨w.heap.size + 1, 0, none⟩ = some (.int .i64 z1) ∧ W.cell? ⟨w.heap.size + 1, 1, none⟩ = some (.slice A1 l1.length c1) ∧ W.cell? ⟨w.heap.size + 2, 0, none⟩ = some (.string x2.k) ∧ W.cell? ⟨w.heap.size + 2, 1, none⟩ = some (.int .i64 x2.n) ∧ W.cell? ⟨w.heap.size + 2, 2, none⟩ = some (.bool x2.g) ∧ W.cell? ⟨gW, 0, none⟩ = some (.int .i64 vz0) ∧ W.cell? ⟨gW, 1, none⟩ = some (.slice bW nW cW) ∧ W.cell? ⟨w24.heap.size, 0, none⟩ = some (.int .i64 z0) ∧ W.cell? ⟨w24.heap.size, 1, none⟩ = some (.slice (some ⟨gX0, 0, none⟩) l0.length l0.length) ∧ W.cell? ⟨w25.heap.size, 0, none⟩ = some (.int .i64 z1) ∧ W.cell? ⟨w25.heap.size, 1, none⟩ = some (.slice (some ⟨gX1, 0, none⟩) l1.length l1.length) ∧ W.cell? ⟨gG, 0, none⟩ = some (.int .i64 vz0) ∧ W.cell? ⟨gG, 1, none⟩ = some (.slice bG nG cG))) (by kernel_rfl) ?_ (fun hHeld => ?_)
      focus ((try dsimp only); (exact ⟨by rw [B0_t124.cell]; rfl, by rw [B0_t124.cell]; rfl, by rw [B1_t124.cell]; rfl, by rw [B1_t124.cell]; rfl, by rw [B2_t124.cell]; rfl, by rw [B2_t124.cell]; rfl, by rw [B2_t124.cell]; rfl, by rw [Bw_t124.cell]; rfl, by rw [Bw_t124.cell]; rfl, by rw [Bx0_t124.cell]; rfl, by rw [Bx0_t124.cell]; rfl, by rw [Bx1_t124.cell]; rfl, by rw [Bx1_t124.cell]; rfl, by rw [Bg_t124.cell]; rfl, by rw [Bg_t124.cell]; rfl⟩))
      (refine tk 0 ?_; try simp only [Act.put, pa, pb, pc])
      (refine tk 1 ?_; try simp only [Act.put, pa, pb, pc])
      (refine rd1 2 (fun K hK => ?_); go_simp; (go_at_call 20; refine (toWork_c z1 A1 c1 l1 _ hc1 hlen1 ((hr1.below hw_t124).more hw_t124.size)).mono ?_; rintro e w49 ⟨gZ1, rfl, Z1_n, ge_Z10, lt_Z10, hb49⟩; have W_t125 := W_t124.next hb49; clear W_t124; have X0_t125 := X0_t124.next hb49; clear X0_t124; have X1_t125 := X1_t124.next hb49; clear X1_t124; have G_t125 := G_t124.next hb49; clear G_t124; have B0_t125 := B0_t124.next hb49; clear B0_t124; have B1_t125 := B1_t124.next hb49; clear B1_t124; have B2_t125 := B2_t124.next hb49; clear B2_t124; have Bw_t125 := Bw_t124.next hb49; clear Bw_t124; have Bx0_t125 := Bx0_t124.next hb49; clear Bx0_t124; have Bx1_t125 := Bx1_t124.next hb49; clear Bx1_t124; have Bg_t125 := Bg_t124.next hb49; clear Bg_t124; have hw_t125 := below_next hw_t124 hb49; have hs_t125 := hb49.size; have ge_Z1 : ∀ g, (Value.slice (some ⟨gZ1, 0, none⟩) l1.length l1.length).ownBlock = some g → (w48.drew).heap.size ≤ g := fun g hg => (by have : gZ1 = g := Option.some.inj hg; omega); have lt_Z1 : ∀ g, (Value.slice (some ⟨gZ1, 0, none⟩) l1.length l1.length).ownBlock = some g → g < w49.heap.size := fun g hg => (by have : gZ1 = g := Option.some.inj hg; omega); clear ge_Z10 lt_Z10); go_wp2_with fail; refine hK.out _ _ ?_ (fun hHeld => ?_); (focus ((try dsimp only); (exact ⟨by rw [B0_t125.cell]; rfl, by rw [B0_t125.cell]; rfl, by rw [B1_t125.cell]; rfl, by rw [B1_t125.cell]; rfl, by rw [B2_t125.cell]; rfl, by rw [B2_t125.cell]; rfl, by rw [B2_t125.cell]; rfl, by rw [Bw_t125.cell]; rfl, by rw [Bw_t125.cell]; rfl, by rw [Bx0_t125.cell]; rfl, by rw [Bx0_t125.cell]; rfl, by rw [Bx1_t125.cell]; rfl, by rw [Bx1_t125.cell]; rfl, by rw [Bg_t125.cell]; rfl, by rw [Bg_t125.cell]; rfl⟩))); clear hK K; (try simp only [Act.put, pa, pb, pc]))
      (refine rd1 3 (fun K hK => ?_); go_simp; (go_at_call 24; refine (eqWork_c z1 z1 _ _ l1 l1 _ _ _ X1_t125 Z1_n (by omega) (by omega)).mono ?_; rintro e w50 ⟨rfl, hb50⟩; rw [HA1.out]; have W_t126 := W_t125.next hb50; clear W_t125; have X0_t126 := X0_t125.next hb50; clear X0_t125; have X1_t126 := X1_t125.next hb50; clear X1_t125; have G_t126 := G_t125.next hb50; clear G_t125; have Z1_t126 := Z1_n.next hb50; clear Z1_n; have B0_t126 := B0_t125.next hb50; clear B0_t125; have B1_t126 := B1_t125.next hb50; clear B1_t125; have B2_t126 := B2_t125.next hb50; clear B2_t125; have Bw_t126 := Bw_t125.next hb50; clear Bw_t125; have Bx0_t126 := Bx0_t125.next hb50; clear Bx0_t125; have Bx1_t126 := Bx1_t125.next hb50; clear Bx1_t125; have Bg_t126 := Bg_t125.next hb50; clear Bg_t125; have hw_t126 := below_next hw_t125 hb50; have hs_t126 := hb50.size); go_wp2_with fail; refine hK.out _ _ ?_ (fun hHeld => ?_); (focus ((try dsimp only); (exact ⟨by rw [B0_t126.cell]; rfl, by rw [B0_t126.cell]; rfl, by rw [B1_t126.cell]; rfl, by rw [B1_t126.cell]; rfl, by rw [B2_t126.cell]; rfl, by rw [B2_t126.cell]; rfl, by rw [B2_t126.cell]; rfl, by rw [Bw_t126.cell]; rfl, by rw [Bw_t126.cell]; rfl, by rw [Bx0_t126.cell]; rfl, by rw [Bx0_t126.cell]; rfl, by rw [Bx1_t126.cell]; rfl, by rw [Bx1_t126.cell]; rfl, by rw [Bg_t126.cell]; rfl, by rw [Bg_t126.cell]; rfl⟩))); clear hK K; (try simp only [Act.put, pa, pb, pc]))
      (refine tk 4 ?_; try simp only [Act.put, pa, pb, pc])
      refine wpAnyH_done (by kernel_rfl) ?_ _
      clear Z1_t126
      have qB00 : w50.cell? ⟨w.heap.size, 0, none⟩ = some (.int .i64 z0) := by rw [B0_t126.cell]; rfl
      have qB01 : w50.cell? ⟨w.heap.size, 1, none⟩ = some (.slice A0 l0.length c0) := by rw [B0_t126.cell]; rfl
      have qB10 : w50.cell? ⟨w.heap.size + 1, 0, none⟩ = some (.int .i64 z1) := by rw [B1_t126.cell]; rfl
      have qB11 : w50.cell? ⟨w.heap.size + 1, 1, none⟩ = some (.slice A1 l1.length c1) := by rw [B1_t126.cell]; rfl
      have qB20 : w50.cell? ⟨w.heap.size + 2, 0, none⟩ = some (.string x2.k) := by rw [B2_t126.cell]; rfl
      have qB21 : w50.cell? ⟨w.heap.size + 2, 1, none⟩ = some (.int .i64 x2.n) := by rw [B2_t126.cell]; rfl
      have qB22 : w50.cell? ⟨w.heap.size + 2, 2, none⟩ = some (.bool x2.g) := by rw [B2_t126.cell]; rfl
      have qBw0 : w50.cell? ⟨gW, 0, none⟩ = some (.int .i64 vz0) := by rw [Bw_t126.cell]; rfl
      have qBw1 : w50.cell? ⟨gW, 1, none⟩ = some (.slice bW nW cW) := by rw [Bw_t126.cell]; rfl
      have qBx00 : w50.cell? ⟨w24.heap.size, 0, none⟩ = some (.int .i64 z0) := by rw [Bx0_t126.cell]; rfl
      have qBx01 : w50.cell? ⟨w24.heap.size, 1, none⟩ = some (.slice (some ⟨gX0, 0, none⟩) l0.length l0.length) := by rw [Bx0_t126.cell]; rfl
      have qBx10 : w50.cell? ⟨w25.heap.size, 0, none⟩ = some (.int .i64 z1) := by rw [Bx1_t126.cell]; rfl
      have qBx11 : w50.cell? ⟨w25.heap.size, 1, none⟩ = some (.slice (some ⟨gX1, 0, none⟩) l1.length l1.length) := by rw [Bx1_t126.cell]; rfl
      have qBg0 : w50.cell? ⟨gG, 0, none⟩ = some (.int .i64 vz0) := by rw [Bg_t126.cell]; rfl
      have qBg1 : w50.cell? ⟨gG, 1, none⟩ = some (.slice bG nG cG) := by rw [Bg_t126.cell]; rfl
      go_wp2_with fail
      clear qB00 qB01 qB10 qB11 qB20 qB21 qB22 qBw0 qBw1 qBx00 qBx01 qBx10 qBx11 qBg0 qBg1
      refine (markVers_c z0 _ l0 _ (1) _ X0_t126 (by omega) (by omega)).mono ?_
      rintro e w51 ⟨rfl, hM51, hg51⟩
      have hw_t127 : Below w.heap.size w w51 := belowGrow hw_t126 hg51 (fun k hk => by have := ge_X0 k hk; omega)
      have hs_t127 := hg51.size
      have W_t127 := W_t126.kept hg51 (fun g hg h => by have h1 := ge_X0 g h.symm; have h2 := lt_X0 g h.symm; have h3 := ge_W g hg; have h4 := lt_W g hg; omega)
      clear W_t126
      have X1_t127 := X1_t126.kept hg51 (fun g hg h => by have h1 := ge_X0 g h.symm; have h2 := lt_X0 g h.symm; have h3 := ge_X1 g hg; have h4 := lt_X1 g hg; omega)
      clear X1_t126
      have G_t127 := G_t126.kept hg51 (fun g hg h => by have h1 := ge_X0 g h.symm; have h2 := lt_X0 g h.symm; have h3 := ge_G g hg; have h4 := lt_G g hg; omega)
      clear G_t126
      have B0_t127 := B0_t126.grown hg51 (fun h => by have h1 := ge_X0 _ h.symm; have h2 := lt_X0 _ h.symm; omega)
      clear B0_t126
      have B1_t127 := B1_t126.grown hg51 (fun h => by have h1 := ge_X0 _ h.symm; have h2 := lt_X0 _ h.symm; omega)
      clear B1_t126
      have B2_t127 := B2_t126.grown hg51 (fun h => by have h1 := ge_X0 _ h.symm; have h2 := lt_X0 _ h.symm; omega)
      clear B2_t126
      have Bw_t127 := Bw_t126.grown hg51 (fun h => by have h1 := ge_X0 _ h.symm; have h2 := lt_X0 _ h.symm; omega)
      clear Bw_t126
      have Bx0_t127 := Bx0_t126.grown hg51 (fun h => by have h1 := ge_X0 _ h.symm; have h2 := lt_X0 _ h.symm; omega)
      clear Bx0_t126
      have Bx1_t127 := Bx1_t126.grown hg51 (fun h => by have h1 := ge_X0 _ h.symm; have h2 := lt_X0 _ h.symm; omega)
      clear Bx1_t126
      have Bg_t127 := Bg_t126.grown hg51 (fun h => by have h1 := ge_X0 _ h.symm; have h2 := lt_X0 _ h.symm; omega)
      clear Bg_t126
      clear X0_t126 hg51
      clear hM51
      have qB00 : w51.cell? ⟨w.heap.size, 0, none⟩ = some (.int .i64 z0) := by rw [B0_t127.cell]; rfl
      have qB01 : w51.cell? ⟨w.heap.size, 1, none⟩ = some (.slice A0 l0.length c0) := by rw [B0_t127.cell]; rfl
      have qB10 : w51.cell? ⟨w.heap.size + 1, 0, none⟩ = some (.int .i64 z1) := by rw [B1_t127.cell]; rfl
      have qB11 : w51.cell? ⟨w.heap.size + 1, 1, none⟩ = some (.slice A1 l1.length c1) := by rw [B1_t127.cell]; rfl
      have qB20 : w51.cell? ⟨w.heap.size + 2, 0, none⟩ = some (.string x2.k) := by rw [B2_t127.cell]; rfl
      have qB21 : w51.cell? ⟨w.heap.size + 2, 1, none⟩ = some (.int .i64 x2.n) := by rw [B2_t127.cell]; rfl
      have qB22 : w51.cell? ⟨w.heap.size + 2, 2, none⟩ = some (.bool x2.g) := by rw [B2_t127.cell]; rfl
      have qBw0 : w51.cell? ⟨gW, 0, none⟩ = some (.int .i64 vz0) := by rw [Bw_t127.cell]; rfl
      have qBw1 : w51.cell? ⟨gW, 1, none⟩ = some (.slice bW nW cW) := by rw [Bw_t127.cell]; rfl
      have qBx00 : w51.cell? ⟨w24.heap.size, 0, none⟩ = some (.int .i64 z0) := by rw [Bx0_t127.cell]; rfl
      have qBx01 : w51.cell? ⟨w24.heap.size, 1, none⟩ = some (.slice (some ⟨gX0, 0, none⟩) l0.length l0.length) := by rw [Bx0_t127.cell]; rfl
      have qBx10 : w51.cell? ⟨w25.heap.size, 0, none⟩ = some (.int .i64 z1) := by rw [Bx1_t127.cell]; rfl
      have qBx11 : w51.cell? ⟨w25.heap.size, 1, none⟩ = some (.slice (some ⟨gX1, 0, none⟩) l1.length l1.length) := by rw [Bx1_t127.cell]; rfl
      have qBg0 : w51.cell? ⟨gG, 0, none⟩ = some (.int .i64 vz0) := by rw [Bg_t127.cell]; rfl
      have qBg1 : w51.cell? ⟨gG, 1, none⟩ = some (.slice bG nG cG) := by rw [Bg_t127.cell]; rfl
      go_wp2_with fail
      clear qB00 qB01 qB10 qB11 qB20 qB21 qB22 qBw0 qBw1 qBx00 qBx01 qBx10 qBx11 qBg0 qBg1
      refine (markWork_c z1 _ l1 _ (1 + 4 * l0.length) _ X1_t127 (by omega) (by omega)).mono ?_
      rintro e w52 ⟨rfl, hM52, hg52⟩
      have hw_t128 : Below w.heap.size w w52 := belowGrow hw_t127 hg52 (fun k hk => by have := ge_X1 k hk; omega)
      have hs_t128 := hg52.size
      have W_t128 := W_t127.kept hg52 (fun g hg h => by have h1 := ge_X1 g h.symm; have h2 := lt_X1 g h.symm; have h3 := ge_W g hg; have h4 := lt_W g hg; omega)
      clear W_t127
      have G_t128 := G_t127.kept hg52 (fun g hg h => by have h1 := ge_X1 g h.symm; have h2 := lt_X1 g h.symm; have h3 := ge_G g hg; have h4 := lt_G g hg; omega)
      clear G_t127
      have B0_t128 := B0_t127.grown hg52 (fun h => by have h1 := ge_X1 _ h.symm; have h2 := lt_X1 _ h.symm; omega)
      clear B0_t127
      have B1_t128 := B1_t127.grown hg52 (fun h => by have h1 := ge_X1 _ h.symm; have h2 := lt_X1 _ h.symm; omega)
      clear B1_t127
      have B2_t128 := B2_t127.grown hg52 (fun h => by have h1 := ge_X1 _ h.symm; have h2 := lt_X1 _ h.symm; omega)
      clear B2_t127
      have Bw_t128 := Bw_t127.grown hg52 (fun h => by have h1 := ge_X1 _ h.symm; have h2 := lt_X1 _ h.symm; omega)
      clear Bw_t127
      have Bx0_t128 := Bx0_t127.grown hg52 (fun h => by have h1 := ge_X1 _ h.symm; have h2 := lt_X1 _ h.symm; omega)
      clear Bx0_t127
      have Bx1_t128 := Bx1_t127.grown hg52 (fun h => by have h1 := ge_X1 _ h.symm; have h2 := lt_X1 _ h.symm; omega)
      clear Bx1_t127
      have Bg_t128 := Bg_t127.grown hg52 (fun h => by have h1 := ge_X1 _ h.symm; have h2 := lt_X1 _ h.symm; omega)
      clear Bg_t127
      clear X1_t127 hg52
      clear hM52
      have qB00 : w52.cell? ⟨w.heap.size, 0, none⟩ = some (.int .i64 z0) := by rw [B0_t128.cell]; rfl
      have qB01 : w52.cell? ⟨w.heap.size, 1, none⟩ = some (.slice A0 l0.length c0) := by rw [B0_t128.cell]; rfl
      have qB10 : w52.cell? ⟨w.heap.size + 1, 0, none⟩ = some (.int .i64 z1) := by rw [B1_t128.cell]; rfl
      have qB11 : w52.cell? ⟨w.heap.size + 1, 1, none⟩ = some (.slice A1 l1.length c1) := by rw [B1_t128.cell]; rfl
      have qB20 : w52.cell? ⟨w.heap.size + 2, 0, none⟩ = some (.string x2.k) := by rw [B2_t128.cell]; rfl
      have qB21 : w52.cell? ⟨w.heap.size + 2, 1, none⟩ = some (.int .i64 x2.n) := by rw [B2_t128.cell]; rfl
      have qB22 : w52.cell? ⟨w.heap.size + 2, 2, none⟩ = some (.bool x2.g) := by rw [B2_t128.cell]; rfl
      have qBw0 : w52.cell? ⟨gW, 0, none⟩ = some (.int .i64 vz0) := by rw [Bw_t128.cell]; rfl
      have qBw1 : w52.cell? ⟨gW, 1, none⟩ = some (.slice bW nW cW) := by rw [Bw_t128.cell]; rfl
      have qBx00 : w52.cell? ⟨w24.heap.size, 0, none⟩ = some (.int .i64 z0) := by rw [Bx0_t128.cell]; rfl
      have qBx01 : w52.cell? ⟨w24.heap.size, 1, none⟩ = some (.slice (some ⟨gX0, 0, none⟩) l0.length l0.length) := by rw [Bx0_t128.cell]; rfl
      have qBx10 : w52.cell? ⟨w25.heap.size, 0, none⟩ = some (.int .i64 z1) := by rw [Bx1_t128.cell]; rfl
      have qBx11 : w52.cell? ⟨w25.heap.size, 1, none⟩ = some (.slice (some ⟨gX1, 0, none⟩) l1.length l1.length) := by rw [Bx1_t128.cell]; rfl
      have qBg0 : w52.cell? ⟨gG, 0, none⟩ = some (.int .i64 vz0) := by rw [Bg_t128.cell]; rfl
      have qBg1 : w52.cell? ⟨gG, 1, none⟩ = some (.slice bG nG cG) := by rw [Bg_t128.cell]; rfl
      go_wp2_with fail
      clear qB00 qB01 qB10 qB11 qB20 qB21 qB22 qBw0 qBw1 qBx00 qBx01 qBx10 qBx11 qBg0 qBg1
      refine (eqWork_c vz0 vz0 _ _ vl0 vl0 _ _ _ G_t128 W_t128 (by omega) (by omega)).mono ?_
      rintro e w53 ⟨rfl, hb53⟩
      rw [HE0.out]
      have W_t129 := W_t128.next hb53
      clear W_t128
      have G_t129 := G_t128.next hb53
      clear G_t128
      have B0_t129 := B0_t128.next hb53
      clear B0_t128
      have B1_t129 := B1_t128.next hb53
      clear B1_t128
      have B2_t129 := B2_t128.next hb53
      clear B2_t128
      have Bw_t129 := Bw_t128.next hb53
      clear Bw_t128
      have Bx0_t129 := Bx0_t128.next hb53
      clear Bx0_t128
      have Bx1_t129 := Bx1_t128.next hb53
      clear Bx1_t128
      have Bg_t129 := Bg_t128.next hb53
      clear Bg_t128
      have hw_t129 := below_next hw_t128 hb53
      have hs_t129 := hb53.size
      have qB00 : w53.cell? ⟨w.heap.size, 0, none⟩ = some (.int .i64 z0) := by rw [B0_t129.cell]; rfl
      have qB01 : w53.cell? ⟨w.heap.size, 1, none⟩ = some (.slice A0 l0.length c0) := by rw [B0_t129.cell]; rfl
      have qB10 : w53.cell? ⟨w.heap.size + 1, 0, none⟩ = some (.int .i64 z1) := by rw [B1_t129.cell]; rfl
      have qB11 : w53.cell? ⟨w.heap.size + 1, 1, none⟩ = some (.slice A1 l1.length c1) := by rw [B1_t129.cell]; rfl
      have qB20 : w53.cell? ⟨w.heap.size + 2, 0, none⟩ = some (.string x2.k) := by rw [B2_t129.cell]; rfl
      have qB21 : w53.cell? ⟨w.heap.size + 2, 1, none⟩ = some (.int .i64 x2.n) := by rw [B2_t129.cell]; rfl
      have qB22 : w53.cell? ⟨w.heap.size + 2, 2, none⟩ = some (.bool x2.g) := by rw [B2_t129.cell]; rfl
      have qBw0 : w53.cell? ⟨gW, 0, none⟩ = some (.int .i64 vz0) := by rw [Bw_t129.cell]; rfl
      have qBw1 : w53.cell? ⟨gW, 1, none⟩ = some (.slice bW nW cW) := by rw [Bw_t129.cell]; rfl
      have qBx00 : w53.cell? ⟨w24.heap.size, 0, none⟩ = some (.int .i64 z0) := by rw [Bx0_t129.cell]; rfl
      have qBx01 : w53.cell? ⟨w24.heap.size, 1, none⟩ = some (.slice (some ⟨gX0, 0, none⟩) l0.length l0.length) := by rw [Bx0_t129.cell]; rfl
      have qBx10 : w53.cell? ⟨w25.heap.size, 0, none⟩ = some (.int .i64 z1) := by rw [Bx1_t129.cell]; rfl
      have qBx11 : w53.cell? ⟨w25.heap.size, 1, none⟩ = some (.slice (some ⟨gX1, 0, none⟩) l1.length l1.length) := by rw [Bx1_t129.cell]; rfl
      have qBg0 : w53.cell? ⟨gG, 0, none⟩ = some (.int .i64 vz0) := by rw [Bg_t129.cell]; rfl
      have qBg1 : w53.cell? ⟨gG, 1, none⟩ = some (.slice bG nG cG) := by rw [Bg_t129.cell]; rfl
      go_wp2_with fail
      clear qB00 qB01 qB10 qB11 qB20 qB21 qB22 qBw0 qBw1 qBx00 qBx01 qBx10 qBx11 qBg0 qBg1
      refine (markWork_c vz0 _ vl0 _ 1 _ G_t129 (by omega) (by omega)).mono ?_
      rintro e w54 ⟨rfl, hM54, hg54⟩
      have hw_t130 : Below w.heap.size w w54 := belowGrow hw_t129 hg54 (fun k hk => by have := ge_G k hk; omega)
      have hs_t130 := hg54.size
      have W_t130 := W_t129.kept hg54 (fun g hg h => by have h1 := ge_G g h.symm; have h2 := lt_G g h.symm; have h3 := ge_W g hg; have h4 := lt_W g hg; omega)
      clear W_t129
      have B0_t130 := B0_t129.grown hg54 (fun h => by have h1 := ge_G _ h.symm; have h2 := lt_G _ h.symm; omega)
      clear B0_t129
      have B1_t130 := B1_t129.grown hg54 (fun h => by have h1 := ge_G _ h.symm; have h2 := lt_G _ h.symm; omega)
      clear B1_t129
      have B2_t130 := B2_t129.grown hg54 (fun h => by have h1 := ge_G _ h.symm; have h2 := lt_G _ h.symm; omega)
      clear B2_t129
      have Bw_t130 := Bw_t129.grown hg54 (fun h => by have h1 := ge_G _ h.symm; have h2 := lt_G _ h.symm; omega)
      clear Bw_t129
      have Bx0_t130 := Bx0_t129.grown hg54 (fun h => by have h1 := ge_G _ h.symm; have h2 := lt_G _ h.symm; omega)
      clear Bx0_t129
      have Bx1_t130 := Bx1_t129.grown hg54 (fun h => by have h1 := ge_G _ h.symm; have h2 := lt_G _ h.symm; omega)
      clear Bx1_t129
      have Bg_t130 := Bg_t129.grown hg54 (fun h => hne_G _ h.symm rfl)
      clear Bg_t129
      clear G_t129 hg54
      have qB00 : w54.cell? ⟨w.heap.size, 0, none⟩ = some (.int .i64 z0) := by rw [B0_t130.cell]; rfl
      have qB01 : w54.cell? ⟨w.heap.size, 1, none⟩ = some (.slice A0 l0.length c0) := by rw [B0_t130.cell]; rfl
      have qB10 : w54.cell? ⟨w.heap.size + 1, 0, none⟩ = some (.int .i64 z1) := by rw [B1_t130.cell]; rfl
      have qB11 : w54.cell? ⟨w.heap.size + 1, 1, none⟩ = some (.slice A1 l1.length c1) := by rw [B1_t130.cell]; rfl
      have qB20 : w54.cell? ⟨w.heap.size + 2, 0, none⟩ = some (.string x2.k) := by rw [B2_t130.cell]; rfl
      have qB21 : w54.cell? ⟨w.heap.size + 2, 1, none⟩ = some (.int .i64 x2.n) := by rw [B2_t130.cell]; rfl
      have qB22 : w54.cell? ⟨w.heap.size + 2, 2, none⟩ = some (.bool x2.g) := by rw [B2_t130.cell]; rfl
      have qBw0 : w54.cell? ⟨gW, 0, none⟩ = some (.int .i64 vz0) := by rw [Bw_t130.cell]; rfl
      have qBw1 : w54.cell? ⟨gW, 1, none⟩ = some (.slice bW nW cW) := by rw [Bw_t130.cell]; rfl
      have qBx00 : w54.cell? ⟨w24.heap.size, 0, none⟩ = some (.int .i64 z0) := by rw [Bx0_t130.cell]; rfl
      have qBx01 : w54.cell? ⟨w24.heap.size, 1, none⟩ = some (.slice (some ⟨gX0, 0, none⟩) l0.length l0.length) := by rw [Bx0_t130.cell]; rfl
      have qBx10 : w54.cell? ⟨w25.heap.size, 0, none⟩ = some (.int .i64 z1) := by rw [Bx1_t130.cell]; rfl
      have qBx11 : w54.cell? ⟨w25.heap.size, 1, none⟩ = some (.slice (some ⟨gX1, 0, none⟩) l1.length l1.length) := by rw [Bx1_t130.cell]; rfl
      have qBg0 : w54.cell? ⟨gG, 0, none⟩ = some (.int .i64 vz0) := by rw [Bg_t130.cell]; rfl
      have qBg1 : w54.cell? ⟨gG, 1, none⟩ = some (.slice bG nG cG) := by rw [Bg_t130.cell]; rfl
      go_wp2_with fail
      clear qB00 qB01 qB10 qB11 qB20 qB21 qB22 qBw0 qBw1 qBx00 qBx01 qBx10 qBx11 qBg0 qBg1
      refine (heldWork_c vz0 _ vl0.length _ 1 _ hM54 (by omega) (by omega)).mono ?_
      rintro e w55 ⟨rfl, hb55⟩
      have W_t131 := W_t130.next hb55
      clear W_t130
      have G_t131 := hM54.next hb55
      clear hM54
      have B0_t131 := B0_t130.next hb55
      clear B0_t130
      have B1_t131 := B1_t130.next hb55
      clear B1_t130
      have B2_t131 := B2_t130.next hb55
      clear B2_t130
      have Bw_t131 := Bw_t130.next hb55
      clear Bw_t130
      have Bx0_t131 := Bx0_t130.next hb55
      clear Bx0_t130
      have Bx1_t131 := Bx1_t130.next hb55
      clear Bx1_t130
      have Bg_t131 := Bg_t130.next hb55
      clear Bg_t130
      have hw_t131 := below_next hw_t130 hb55
      have hs_t131 := hb55.size
      have qB00 : w55.cell? ⟨w.heap.size, 0, none⟩ = some (.int .i64 z0) := by rw [B0_t131.cell]; rfl
      have qB01 : w55.cell? ⟨w.heap.size, 1, none⟩ = some (.slice A0 l0.length c0) := by rw [B0_t131.cell]; rfl
      have qB10 : w55.cell? ⟨w.heap.size + 1, 0, none⟩ = some (.int .i64 z1) := by rw [B1_t131.cell]; rfl
      have qB11 : w55.cell? ⟨w.heap.size + 1, 1, none⟩ = some (.slice A1 l1.length c1) := by rw [B1_t131.cell]; rfl
      have qB20 : w55.cell? ⟨w.heap.size + 2, 0, none⟩ = some (.string x2.k) := by rw [B2_t131.cell]; rfl
      have qB21 : w55.cell? ⟨w.heap.size + 2, 1, none⟩ = some (.int .i64 x2.n) := by rw [B2_t131.cell]; rfl
      have qB22 : w55.cell? ⟨w.heap.size + 2, 2, none⟩ = some (.bool x2.g) := by rw [B2_t131.cell]; rfl
      have qBw0 : w55.cell? ⟨gW, 0, none⟩ = some (.int .i64 vz0) := by rw [Bw_t131.cell]; rfl
      have qBw1 : w55.cell? ⟨gW, 1, none⟩ = some (.slice bW nW cW) := by rw [Bw_t131.cell]; rfl
      have qBx00 : w55.cell? ⟨w24.heap.size, 0, none⟩ = some (.int .i64 z0) := by rw [Bx0_t131.cell]; rfl
      have qBx01 : w55.cell? ⟨w24.heap.size, 1, none⟩ = some (.slice (some ⟨gX0, 0, none⟩) l0.length l0.length) := by rw [Bx0_t131.cell]; rfl
      have qBx10 : w55.cell? ⟨w25.heap.size, 0, none⟩ = some (.int .i64 z1) := by rw [Bx1_t131.cell]; rfl
      have qBx11 : w55.cell? ⟨w25.heap.size, 1, none⟩ = some (.slice (some ⟨gX1, 0, none⟩) l1.length l1.length) := by rw [Bx1_t131.cell]; rfl
      have qBg0 : w55.cell? ⟨gG, 0, none⟩ = some (.int .i64 vz0) := by rw [Bg_t131.cell]; rfl
      have qBg1 : w55.cell? ⟨gG, 1, none⟩ = some (.slice bG nG cG) := by rw [Bg_t131.cell]; rfl
      go_wp2
      clear qB00 qB01 qB10 qB11 qB20 qB21 qB22 qBw0 qBw1 qBx00 qBx01 qBx10 qBx11 qBg0 qBg1
      go_cut [17, 18] (fun p q W => ∃ (gHh : Nat) (bHh : Option Addr) (nHh cHh : Nat), p = .pointer (some ⟨gHh, 0, none⟩) ∧ q = .int .i64 vb1 ∧ Blk W gHh 38 #[.int .i64 vz0, .slice bHh nHh cHh] ∧ OwnG W w55.heap.size (.slice bHh nHh cHh) vl0 ∧ w55.heap.size ≤ gHh ∧ (∀ k, (Value.slice bHh nHh cHh).ownBlock = some k → k ≠ gHh) ∧ Below w55.heap.size w55 W)
      case first =>
        have hb_t132 : Below w55.heap.size w55 w55.drew := (Below.refl _ _).drew
        have W_t133 := W_t131.next hb_t132
        clear W_t131
        have G_t133 := G_t131.next hb_t132
        clear G_t131
        have B0_t133 := B0_t131.next hb_t132
        clear B0_t131
        have B1_t133 := B1_t131.next hb_t132
        clear B1_t131
        have B2_t133 := B2_t131.next hb_t132
        clear B2_t131
        have Bw_t133 := Bw_t131.next hb_t132
        clear Bw_t131
        have Bx0_t133 := Bx0_t131.next hb_t132
        clear Bx0_t131
        have Bx1_t133 := Bx1_t131.next hb_t132
        clear Bx1_t131
        have Bg_t133 := Bg_t131.next hb_t132
        clear Bg_t131
        have hw_t133 := below_next hw_t131 hb_t132
        have hs_t133 := hb_t132.size
        have hc_t132 := hb_t132
        clear hb_t132
        refine wp_region_held_drew (S := (fun W => W.cell? ⟨w.heap.size, 0, none⟩ = some (.int .i64 z0) ∧ W.cell? ⟨w.heap.size, 1, none⟩ = some (.slice A0 l0.length c0) ∧ W.cell? ⟨w.heap.size + 1, 0, none⟩ = some (.int .i64 z1) ∧ W.cell? ⟨w.heap.size + 1, 1, none⟩ = some (.slice A1 l1.length c1) ∧ W.cell? ⟨w.heap.size + 2, 0, none⟩ = some (.string x2.k) ∧ W.cell? ⟨w.heap.size + 2, 1, none⟩ = some (.int .i64 x2.n) ∧ W.cell? ⟨w.heap.size + 2, 2, none⟩ = some (.bool x2.g) ∧ W.cell? ⟨gW, 0, none⟩ = some (.int .i64 vz0) ∧ W.cell? ⟨gW, 1, none⟩ = some (.slice bW nW cW) ∧ W.cell? ⟨w24.heap.size, 0, none⟩ = some (.int .i64 z0) ∧ W.cell? ⟨w24.heap.size, 1, none⟩ = some (.slice (some ⟨gX0, 0, none⟩) l0.length l0.length) ∧ W.cell? ⟨w25.heap.size, 0, none⟩ = some (.int .i64 z1) ∧ W.cell? ⟨w25.heap.size, 1, none⟩ = some (.slice (some ⟨gX1, 0, none⟩) l1.length l1.length) ∧ W.cell? ⟨gG, 0, none⟩ = some (.int .i64 vz0) ∧ W.cell? ⟨gG, 1, none⟩ = some (.slice bG nG cG))) (by kernel_rfl) ?_ (fun hHeld => ?_)
        focus ((try dsimp only); (exact ⟨by rw [B0_t133.cell]; rfl, by rw [B0_t133.cell]; rfl, by rw [B1_t133.cell]; rfl, by rw [B1_t133.cell]; rfl, by rw [B2_t133.cell]; rfl, by rw [B2_t133.cell]; rfl, by rw [B2_t133.cell]; rfl, by rw [Bw_t133.cell]; rfl, by rw [Bw_t133.cell]; rfl, by rw [Bx0_t133.cell]; rfl, by rw [Bx0_t133.cell]; rfl, by rw [Bx1_t133.cell]; rfl, by rw [Bx1_t133.cell]; rfl, by rw [Bg_t133.cell]; rfl, by rw [Bg_t133.cell]; rfl⟩))
        obtain ⟨wd, HWD⟩ : ∃ wd, Hid (w55.drew = wd) := ⟨_, Lib.hid rfl⟩
        rw [HWD.out] at hHeld hc_t132 W_t133 G_t133 B0_t133 B1_t133 B2_t133 Bw_t133 Bx0_t133 Bx1_t133 Bg_t133 hw_t133
        rw [HWD.out]
        (refine tk 0 ?_; try simp only [Act.put, pa, pb, pc])
        (refine tk 2 ?_; try simp only [Act.put, pa, pb, pc])
        (refine tk 4 ?_; try simp only [Act.put, pa, pb, pc])
        refine wpAnyH_ready (rs := [1, 10]) (by kernel_rfl) (by simp) (AllReadyH.cons (by (simp only [ga, gb, gc]; rfl)) (fun K hK => ?_) (AllReadyH.cons (by (simp only [ga, gb, gc]; rfl)) (fun K hK => ?_) AllReadyH.nil))
        · go_simp
          go_at_call 19
          refine (toVers_c z0 A0 c0 l0 _ hc0 hlen0 ((hr0.below hw_t133).more hw_t133.size)).mono ?_
          rintro e w56 ⟨gY0, rfl, Y0_n, ge_Y00, lt_Y00, hb56⟩
          clear ge_Y00 lt_Y00
          have W_t134 := W_t133.next hb56
          clear W_t133
          have G_t134 := G_t133.next hb56
          clear G_t133
          have B0_t134 := B0_t133.next hb56
          clear B0_t133
          have B1_t134 := B1_t133.next hb56
          clear B1_t133
          have B2_t134 := B2_t133.next hb56
          clear B2_t133
          have Bw_t134 := Bw_t133.next hb56
          clear Bw_t133
          have Bx0_t134 := Bx0_t133.next hb56
          clear Bx0_t133
          have Bx1_t134 := Bx1_t133.next hb56
          clear Bx1_t133
          have Bg_t134 := Bg_t133.next hb56
          clear Bg_t133
          have hw_t134 := below_next hw_t133 hb56
          have hs_t134 := hb56.size
          have hcn56 := below_next hc_t132 hb56
          go_wp2_with fail
          refine hK.out _ _ ?_ (fun hHeld => ?_)
          focus ((try dsimp only); (exact ⟨by rw [B0_t134.cell]; rfl, by rw [B0_t134.cell]; rfl, by rw [B1_t134.cell]; rfl, by rw [B1_t134.cell]; rfl, by rw [B2_t134.cell]; rfl, by rw [B2_t134.cell]; rfl, by rw [B2_t134.cell]; rfl, by rw [Bw_t134.cell]; rfl, by rw [Bw_t134.cell]; rfl, by rw [Bx0_t134.cell]; rfl, by rw [Bx0_t134.cell]; rfl, by rw [Bx1_t134.cell]; rfl, by rw [Bx1_t134.cell]; rfl, by rw [Bg_t134.cell]; rfl, by rw [Bg_t134.cell]; rfl⟩))
          clear hK K
          try simp only [Act.put, pa, pb, pc]
          refine wpAnyH_ready (rs := [3, 10]) (by kernel_rfl) (by simp) (AllReadyH.cons (by (simp only [ga, gb, gc]; rfl)) (fun K hK => ?_) (AllReadyH.cons (by (simp only [ga, gb, gc]; rfl)) (fun K hK => ?_) AllReadyH.nil))
          · go_simp
            go_at_call 20
            refine (toWork_c z1 A1 c1 l1 _ hc1 hlen1 ((hr1.below hw_t134).more hw_t134.size)).mono ?_
            rintro e w57 ⟨gY1, rfl, Y1_n, ge_Y10, lt_Y10, hb57⟩
            clear ge_Y10 lt_Y10
            have W_t135 := W_t134.next hb57
            clear W_t134
            have G_t135 := G_t134.next hb57
            clear G_t134
            have Y0_t135 := Y0_n.next hb57
            clear Y0_n
            have B0_t135 := B0_t134.next hb57
            clear B0_t134
            have B1_t135 := B1_t134.next hb57
            clear B1_t134
            have B2_t135 := B2_t134.next hb57
            clear B2_t134
            have Bw_t135 := Bw_t134.next hb57
            clear Bw_t134
            have Bx0_t135 := Bx0_t134.next hb57
            clear Bx0_t134
            have Bx1_t135 := Bx1_t134.next hb57
            clear Bx1_t134
            have Bg_t135 := Bg_t134.next hb57
            clear Bg_t134
            have hw_t135 := below_next hw_t134 hb57
            have hs_t135 := hb57.size
            have hcn57 := below_next hcn56 hb57
            go_wp2_with fail
            refine hK.out _ _ ?_ (fun hHeld => ?_)
            focus ((try dsimp only); (exact ⟨by rw [B0_t135.cell]; rfl, by rw [B0_t135.cell]; rfl, by rw [B1_t135.cell]; rfl, by rw [B1_t135.cell]; rfl, by rw [B2_t135.cell]; rfl, by rw [B2_t135.cell]; rfl, by rw [B2_t135.cell]; rfl, by rw [Bw_t135.cell]; rfl, by rw [Bw_t135.cell]; rfl, by rw [Bx0_t135.cell]; rfl, by rw [Bx0_t135.cell]; rfl, by rw [Bx1_t135.cell]; rfl, by rw [Bx1_t135.cell]; rfl, by rw [Bg_t135.cell]; rfl, by rw [Bg_t135.cell]; rfl⟩))
            clear hK K
            try simp only [Act.put, pa, pb, pc]
            refine wpAnyH_ready (rs := [5, 10]) (by kernel_rfl) (by simp) (AllReadyH.cons (by (simp only [ga, gb, gc]; rfl)) (fun K hK => ?_) (AllReadyH.cons (by (simp only [ga, gb, gc]; rfl)) (fun K hK => ?_) AllReadyH.nil))
            · go_simp
              go_at_call 31
              refine (toWrite_c x2 _).mono ?_
              rintro e w58 ⟨rfl, hb58⟩
              have W_t136 := W_t135.next hb58
              clear W_t135
              have G_t136 := G_t135.next hb58
              clear G_t135
              have Y0_t136 := Y0_t135.next hb58
              clear Y0_t135
              have Y1_t136 := Y1_n.next hb58
              clear Y1_n
              have B0_t136 := B0_t135.next hb58
              clear B0_t135
              have B1_t136 := B1_t135.next hb58
              clear B1_t135
              have B2_t136 := B2_t135.next hb58
              clear B2_t135
              have Bw_t136 := Bw_t135.next hb58
              clear Bw_t135
              have Bx0_t136 := Bx0_t135.next hb58
              clear Bx0_t135
              have Bx1_t136 := Bx1_t135.next hb58
              clear Bx1_t135
              have Bg_t136 := Bg_t135.next hb58
              clear Bg_t135
              have hw_t136 := below_next hw_t135 hb58
              have hs_t136 := hb58.size
              have hcn58 := below_next hcn57 hb58
              go_wp2_with fail
              refine hK.out _ _ ?_ (fun hHeld => ?_)
              focus ((try dsimp only); (exact ⟨by rw [B0_t136.cell]; rfl, by rw [B0_t136.cell]; rfl, by rw [B1_t136.cell]; rfl, by rw [B1_t136.cell]; rfl, by rw [B2_t136.cell]; rfl, by rw [B2_t136.cell]; rfl, by rw [B2_t136.cell]; rfl, by rw [Bw_t136.cell]; rfl, by rw [Bw_t136.cell]; rfl, by rw [Bx0_t136.cell]; rfl, by rw [Bx0_t136.cell]; rfl, by rw [Bx1_t136.cell]; rfl, by rw [Bx1_t136.cell]; rfl, by rw [Bg_t136.cell]; rfl, by rw [Bg_t136.cell]; rfl⟩))
              clear hK K
              try simp only [Act.put, pa, pb, pc]
              refine wpAnyH_ready (rs := [6, 10]) (by kernel_rfl) (by simp) (AllReadyH.cons (by (simp only [ga, gb, gc]; rfl)) (fun K hK => ?_) (AllReadyH.cons (by (simp only [ga, gb, gc]; rfl)) (fun K hK => ?_) AllReadyH.nil))
              · go_simp
                go_at_call 32
                refine (implWorkPutO Y0_t136 Y1_t136 hf0 hf1 hf2 hlen0 hlen1).mono ?_
                rw [HZ0.out, HV0.out, HV1.out]
                rintro e w59 ⟨VHh, rfl, Hh_n, hb59⟩
                obtain ⟨bHh, nHh, cHh, rfl⟩ := Hh_n.slice
                clear Y0_t136
                clear Y1_t136
                have W_t137 := W_t136.next hb59
                clear W_t136
                have G_t137 := G_t136.next hb59
                clear G_t136
                have B0_t137 := B0_t136.next hb59
                clear B0_t136
                have B1_t137 := B1_t136.next hb59
                clear B1_t136
                have B2_t137 := B2_t136.next hb59
                clear B2_t136
                have Bw_t137 := Bw_t136.next hb59
                clear Bw_t136
                have Bx0_t137 := Bx0_t136.next hb59
                clear Bx0_t136
                have Bx1_t137 := Bx1_t136.next hb59
                clear Bx1_t136
                have Bg_t137 := Bg_t136.next hb59
                clear Bg_t136
                have hw_t137 := below_next hw_t136 hb59
                have hs_t137 := hb59.size
                have hcn59 := below_next hcn58 hb59
                go_wp2_with fail
                refine hK.out _ _ ?_ (fun hHeld => ?_)
                focus ((try dsimp only); (exact ⟨by rw [B0_t137.cell]; rfl, by rw [B0_t137.cell]; rfl, by rw [B1_t137.cell]; rfl, by rw [B1_t137.cell]; rfl, by rw [B2_t137.cell]; rfl, by rw [B2_t137.cell]; rfl, by rw [B2_t137.cell]; rfl, by rw [Bw_t137.cell]; rfl, by rw [Bw_t137.cell]; rfl, by rw [Bx0_t137.cell]; rfl, by rw [Bx0_t137.cell]; rfl, by rw [Bx1_t137.cell]; rfl, by rw [Bx1_t137.cell]; rfl, by rw [Bg_t137.cell]; rfl, by rw [Bg_t137.cell]; rfl⟩))
                clear hK K
                try simp only [Act.put, pa, pb, pc]
                (refine tk 7 ?_; try simp only [Act.put, pa, pb, pc])
                (refine tk 8 ?_; try simp only [Act.put, pa, pb, pc])
                (refine tk 9 ?_; try simp only [Act.put, pa, pb, pc])
                refine rd1 10 (fun K hK => ?_)
                go_simp
                have hbz : Below w59.heap.size w59 (w59.alloc (.cells #[.int .i64 0, .slice none 0 0] 38)) := below_alloc (Below.refl _ _) _
                have B0_z := B0_t137.next hbz
                have B1_z := B1_t137.next hbz
                have B2_z := B2_t137.next hbz
                have Bw_z := Bw_t137.next hbz
                have Bx0_z := Bx0_t137.next hbz
                have Bx1_z := Bx1_t137.next hbz
                have Bg_z := Bg_t137.next hbz
                refine hK.out _ _ ?_ (fun hHeld => ?_)
                focus ((try dsimp only); (exact ⟨by rw [B0_z.cell]; rfl, by rw [B0_z.cell]; rfl, by rw [B1_z.cell]; rfl, by rw [B1_z.cell]; rfl, by rw [B2_z.cell]; rfl, by rw [B2_z.cell]; rfl, by rw [B2_z.cell]; rfl, by rw [Bw_z.cell]; rfl, by rw [Bw_z.cell]; rfl, by rw [Bx0_z.cell]; rfl, by rw [Bx0_z.cell]; rfl, by rw [Bx1_z.cell]; rfl, by rw [Bx1_z.cell]; rfl, by rw [Bg_z.cell]; rfl, by rw [Bg_z.cell]; rfl⟩))
                clear hK K
                try simp only [Act.put, pa, pb, pc]
                have By_z := blkA w59 #[.int .i64 0, .slice none 0 0] 38
                have d0 : (w59.alloc (.cells #[.int .i64 0, .slice none 0 0] 38)).cell? ⟨w59.heap.size, 0, none⟩ = some (.int .i64 0) := (by rw [By_z.cell]; rfl)
                have d1 : (w59.alloc (.cells #[.int .i64 0, .slice none 0 0] 38)).cell? ⟨w59.heap.size, 1, none⟩ = some (.slice none 0 0) := (by rw [By_z.cell]; rfl)
                have f0 := By_z.free 0
                have f1 := By_z.free 1
                have HLT : Hid (∀ k, (Value.slice bHh nHh cHh).ownBlock = some k → k < w59.heap.size) := Lib.hid (fun k hk => (Hh_n.block_lt hk).2)
                have hb_t138 := below_alloc (Below.refl _ w59) (.cells #[.int .i64 vz0, .slice bHh nHh cHh] 38)
                have By_t138 := blkA w59 #[.int .i64 vz0, .slice bHh nHh cHh] 38
                have hz_t138 : (w59.alloc (.cells #[.int .i64 vz0, .slice bHh nHh cHh] 38)).heap.size = w59.heap.size + 1 := World.size_alloc _ _
                have W_t139 := W_t137.next hb_t138
                clear W_t137
                have G_t139 := G_t137.next hb_t138
                clear G_t137
                have Hh_t139 := Hh_n.next hb_t138
                clear Hh_n
                have B0_t139 := B0_t137.next hb_t138
                clear B0_t137
                have B1_t139 := B1_t137.next hb_t138
                clear B1_t137
                have B2_t139 := B2_t137.next hb_t138
                clear B2_t137
                have Bw_t139 := Bw_t137.next hb_t138
                clear Bw_t137
                have Bx0_t139 := Bx0_t137.next hb_t138
                clear Bx0_t137
                have Bx1_t139 := Bx1_t137.next hb_t138
                clear Bx1_t137
                have Bg_t139 := Bg_t137.next hb_t138
                clear Bg_t137
                have hw_t139 := below_next hw_t137 hb_t138
                have hs_t139 := hb_t138.size
                have hcL := below_alloc hcn59 (.cells #[.int .i64 vz0, .slice bHh nHh cHh] 38)
                refine rd1 11 (fun K hK => ?_)
                go_simp
                refine hK.out _ _ ?_ (fun hHeld => ?_)
                focus ((try dsimp only); (exact ⟨by rw [B0_t139.cell]; rfl, by rw [B0_t139.cell]; rfl, by rw [B1_t139.cell]; rfl, by rw [B1_t139.cell]; rfl, by rw [B2_t139.cell]; rfl, by rw [B2_t139.cell]; rfl, by rw [B2_t139.cell]; rfl, by rw [Bw_t139.cell]; rfl, by rw [Bw_t139.cell]; rfl, by rw [Bx0_t139.cell]; rfl, by rw [Bx0_t139.cell]; rfl, by rw [Bx1_t139.cell]; rfl, by rw [Bx1_t139.cell]; rfl, by rw [Bg_t139.cell]; rfl, by rw [Bg_t139.cell]; rfl⟩))
                clear hK K d0 d1 f0 f1 By_z B0_z B1_z B2_z Bw_z Bx0_z Bx1_z Bg_z
                try simp only [Act.put, pa, pb, pc]
                (refine tk 12 ?_; try simp only [Act.put, pa, pb, pc])
                refine wpAnyH_done (by kernel_rfl) ?_ _
                go_wp2
                go_meet
                case rel => exact ⟨_, _, _, _, rfl, rfl, By_t138, Hh_t139.low hcn58.size, hcn59.size, (fun k hk => by have := HLT.out k hk; omega), hcL⟩
              · go_simp
                obtain ⟨yb, HYb⟩ : ∃ yb, Hid (w58.heap.size = yb) := ⟨_, Lib.hid rfl⟩
                have ne_B0 : w.heap.size < yb := by have h1 := B0_t136.lt; have h3 := HYb.out; omega
                have ne_B1 : w.heap.size + 1 < yb := by have h1 := B1_t136.lt; have h3 := HYb.out; omega
                have ne_B2 : w.heap.size + 2 < yb := by have h1 := B2_t136.lt; have h3 := HYb.out; omega
                have ne_Bw : gW < yb := by have h1 := Bw_t136.lt; have h3 := HYb.out; omega
                have ne_Bx0 : w24.heap.size < yb := by have h1 := Bx0_t136.lt; have h3 := HYb.out; omega
                have ne_Bx1 : w25.heap.size < yb := by have h1 := Bx1_t136.lt; have h3 := HYb.out; omega
                have ne_Bg : gG < yb := by have h1 := Bg_t136.lt; have h3 := HYb.out; omega
                have GG : Hid (w55.heap.size ≤ yb) := Lib.hid (by have h1 := hcn58.size; have h3 := HYb.out; omega)
                have hcz := below_alloc hcn58 (.cells #[.int .i64 0, .slice none 0 0] 38)
                have hb_t137 := below_alloc (Below.refl _ w58) (.cells #[.int .i64 0, .slice none 0 0] 38)
                have By_t137 := blkA w58 #[.int .i64 0, .slice none 0 0] 38
                have hz_t137 : (w58.alloc (.cells #[.int .i64 0, .slice none 0 0] 38)).heap.size = w58.heap.size + 1 := World.size_alloc _ _
                have W_t138 := W_t136.next hb_t137
                clear W_t136
                have G_t138 := G_t136.next hb_t137
                clear G_t136
                have Y0_t138 := Y0_t136.next hb_t137
                clear Y0_t136
                have Y1_t138 := Y1_t136.next hb_t137
                clear Y1_t136
                have B0_t138 := B0_t136.next hb_t137
                clear B0_t136
                have B1_t138 := B1_t136.next hb_t137
                clear B1_t136
                have B2_t138 := B2_t136.next hb_t137
                clear B2_t136
                have Bw_t138 := Bw_t136.next hb_t137
                clear Bw_t136
                have Bx0_t138 := Bx0_t136.next hb_t137
                clear Bx0_t136
                have Bx1_t138 := Bx1_t136.next hb_t137
                clear Bx1_t136
                have Bg_t138 := Bg_t136.next hb_t137
                clear Bg_t136
                have hw_t138 := below_next hw_t136 hb_t137
                have hs_t138 := hb_t137.size
                refine hK.out _ _ ?_ (fun hHeld => ?_)
                focus ((try dsimp only); (exact ⟨by rw [B0_t138.cell]; rfl, by rw [B0_t138.cell]; rfl, by rw [B1_t138.cell]; rfl, by rw [B1_t138.cell]; rfl, by rw [B2_t138.cell]; rfl, by rw [B2_t138.cell]; rfl, by rw [B2_t138.cell]; rfl, by rw [Bw_t138.cell]; rfl, by rw [Bw_t138.cell]; rfl, by rw [Bx0_t138.cell]; rfl, by rw [Bx0_t138.cell]; rfl, by rw [Bx1_t138.cell]; rfl, by rw [Bx1_t138.cell]; rfl, by rw [Bg_t138.cell]; rfl, by rw [Bg_t138.cell]; rfl⟩))
                clear hK K
                try simp only [Act.put, pa, pb, pc]
                rw [HYb.out] at By_t137
                try rw [HYb.out]
                obtain ⟨we, HWE⟩ : ∃ we, Hid ((w58.alloc (.cells #[.int .i64 0, .slice none 0 0] 38)) = we) := ⟨_, Lib.hid rfl⟩
                rw [HWE.out] at hHeld hcz W_t138 G_t138 Y0_t138 Y1_t138 B0_t138 B1_t138 B2_t138 Bw_t138 Bx0_t138 Bx1_t138 Bg_t138 By_t137 hw_t138
                rw [HWE.out]
                refine rd1 6 (fun K hK => ?_)
                go_simp
                go_at_call 32
                have hgl := By_t137.lt
                refine (implWorkPutO Y0_t138 Y1_t138 hf0 hf1 hf2 hlen0 hlen1).mono ?_
                rw [HZ0.out, HV0.out, HV1.out]
                rintro e w59 ⟨VHh, rfl, Hh_n, hb59⟩
                have HNE : Hid (∀ k, VHh.ownBlock = some k → k ≠ yb) := Lib.hid (fun k hk => by have := (Hh_n.block_lt hk).1; omega)
                obtain ⟨bHh, nHh, cHh, rfl⟩ := Hh_n.slice
                clear Y0_t138
                clear Y1_t138
                have W_t139 := W_t138.next hb59
                clear W_t138
                have G_t139 := G_t138.next hb59
                clear G_t138
                have B0_t139 := B0_t138.next hb59
                clear B0_t138
                have B1_t139 := B1_t138.next hb59
                clear B1_t138
                have B2_t139 := B2_t138.next hb59
                clear B2_t138
                have Bw_t139 := Bw_t138.next hb59
                clear Bw_t138
                have Bx0_t139 := Bx0_t138.next hb59
                clear Bx0_t138
                have Bx1_t139 := Bx1_t138.next hb59
                clear Bx1_t138
                have Bg_t139 := Bg_t138.next hb59
                clear Bg_t138
                have By_t139 := By_t137.next hb59
                clear By_t137
                have hw_t139 := below_next hw_t138 hb59
                have hs_t139 := hb59.size
                have hcn59 := below_next hcz hb59
                go_wp2_with fail
                refine hK.out _ _ ?_ (fun hHeld => ?_)
                focus ((try dsimp only); (exact ⟨by rw [B0_t139.cell]; rfl, by rw [B0_t139.cell]; rfl, by rw [B1_t139.cell]; rfl, by rw [B1_t139.cell]; rfl, by rw [B2_t139.cell]; rfl, by rw [B2_t139.cell]; rfl, by rw [B2_t139.cell]; rfl, by rw [Bw_t139.cell]; rfl, by rw [Bw_t139.cell]; rfl, by rw [Bx0_t139.cell]; rfl, by rw [Bx0_t139.cell]; rfl, by rw [Bx1_t139.cell]; rfl, by rw [Bx1_t139.cell]; rfl, by rw [Bg_t139.cell]; rfl, by rw [Bg_t139.cell]; rfl⟩))
                clear hK K
                try simp only [Act.put, pa, pb, pc]
                (refine tk 7 ?_; try simp only [Act.put, pa, pb, pc])
                (refine tk 8 ?_; try simp only [Act.put, pa, pb, pc])
                (refine tk 9 ?_; try simp only [Act.put, pa, pb, pc])
                have d0 : w59.cell? ⟨yb, 0, none⟩ = some (.int .i64 0) := (by rw [By_t139.cell]; rfl)
                have d1 : w59.cell? ⟨yb, 1, none⟩ = some (.slice none 0 0) := (by rw [By_t139.cell]; rfl)
                have f0 := By_t139.free 0
                have f1 := By_t139.free 1
                have B0_s := (B0_t139.setOther (a := ⟨yb, 0, none⟩) (show w.heap.size ≠ yb from by omega) (.int .i64 vz0)).setOther (a := ⟨yb, 1, none⟩) (show w.heap.size ≠ yb from by omega) (.slice bHh nHh cHh)
                have B1_s := (B1_t139.setOther (a := ⟨yb, 0, none⟩) (show w.heap.size + 1 ≠ yb from by omega) (.int .i64 vz0)).setOther (a := ⟨yb, 1, none⟩) (show w.heap.size + 1 ≠ yb from by omega) (.slice bHh nHh cHh)
                have B2_s := (B2_t139.setOther (a := ⟨yb, 0, none⟩) (show w.heap.size + 2 ≠ yb from by omega) (.int .i64 vz0)).setOther (a := ⟨yb, 1, none⟩) (show w.heap.size + 2 ≠ yb from by omega) (.slice bHh nHh cHh)
                have Bw_s := (Bw_t139.setOther (a := ⟨yb, 0, none⟩) (show gW ≠ yb from by omega) (.int .i64 vz0)).setOther (a := ⟨yb, 1, none⟩) (show gW ≠ yb from by omega) (.slice bHh nHh cHh)
                have Bx0_s := (Bx0_t139.setOther (a := ⟨yb, 0, none⟩) (show w24.heap.size ≠ yb from by omega) (.int .i64 vz0)).setOther (a := ⟨yb, 1, none⟩) (show w24.heap.size ≠ yb from by omega) (.slice bHh nHh cHh)
                have Bx1_s := (Bx1_t139.setOther (a := ⟨yb, 0, none⟩) (show w25.heap.size ≠ yb from by omega) (.int .i64 vz0)).setOther (a := ⟨yb, 1, none⟩) (show w25.heap.size ≠ yb from by omega) (.slice bHh nHh cHh)
                have Bg_s := (Bg_t139.setOther (a := ⟨yb, 0, none⟩) (show gG ≠ yb from by omega) (.int .i64 vz0)).setOther (a := ⟨yb, 1, none⟩) (show gG ≠ yb from by omega) (.slice bHh nHh cHh)
                have By_s := (By_t139.set_ 0 (.int .i64 vz0)).set_ 1 (.slice bHh nHh cHh)
                have p_s := (Hh_n.setCell (a := ⟨yb, 0, none⟩) HNE.out (.int .i64 vz0)).setCell (a := ⟨yb, 1, none⟩) HNE.out (.slice bHh nHh cHh)
                have hcL : Below w55.heap.size w55 ((w59.setCell ⟨yb, 0, none⟩ (.int .i64 vz0)).setCell ⟨yb, 1, none⟩ (.slice bHh nHh cHh)) := (hcn59.setCell (show w55.heap.size ≤ yb from GG.out) _).setCell (show w55.heap.size ≤ yb from GG.out) _
                refine rd1 11 (fun K hK => ?_)
                go_simp
                refine hK.out _ _ ?_ (fun hHeld => ?_)
                focus ((try dsimp only); (exact ⟨by rw [B0_s.cell]; rfl, by rw [B0_s.cell]; rfl, by rw [B1_s.cell]; rfl, by rw [B1_s.cell]; rfl, by rw [B2_s.cell]; rfl, by rw [B2_s.cell]; rfl, by rw [B2_s.cell]; rfl, by rw [Bw_s.cell]; rfl, by rw [Bw_s.cell]; rfl, by rw [Bx0_s.cell]; rfl, by rw [Bx0_s.cell]; rfl, by rw [Bx1_s.cell]; rfl, by rw [Bx1_s.cell]; rfl, by rw [Bg_s.cell]; rfl, by rw [Bg_s.cell]; rfl⟩))
                clear hK K d0 d1 f0 f1
                try simp only [Act.put, pa, pb, pc]
                (refine tk 12 ?_; try simp only [Act.put, pa, pb, pc])
                refine wpAnyH_done (by kernel_rfl) ?_ _
                go_wp2
                go_meet
                case rel => exact ⟨_, bHh, nHh, cHh, rfl, rfl, By_s.cast rfl, p_s.low hcz.size, GG.out, HNE.out, hcL⟩
            · go_simp
              obtain ⟨yb, HYb⟩ : ∃ yb, Hid (w57.heap.size = yb) := ⟨_, Lib.hid rfl⟩
              have ne_B0 : w.heap.size < yb := by have h1 := B0_t135.lt; have h3 := HYb.out; omega
              have ne_B1 : w.heap.size + 1 < yb := by have h1 := B1_t135.lt; have h3 := HYb.out; omega
              have ne_B2 : w.heap.size + 2 < yb := by have h1 := B2_t135.lt; have h3 := HYb.out; omega
              have ne_Bw : gW < yb := by have h1 := Bw_t135.lt; have h3 := HYb.out; omega
              have ne_Bx0 : w24.heap.size < yb := by have h1 := Bx0_t135.lt; have h3 := HYb.out; omega
              have ne_Bx1 : w25.heap.size < yb := by have h1 := Bx1_t135.lt; have h3 := HYb.out; omega
              have ne_Bg : gG < yb := by have h1 := Bg_t135.lt; have h3 := HYb.out; omega
              have GG : Hid (w55.heap.size ≤ yb) := Lib.hid (by have h1 := hcn57.size; have h3 := HYb.out; omega)
              have hcz := below_alloc hcn57 (.cells #[.int .i64 0, .slice none 0 0] 38)
              have hb_t136 := below_alloc (Below.refl _ w57) (.cells #[.int .i64 0, .slice none 0 0] 38)
              have By_t136 := blkA w57 #[.int .i64 0, .slice none 0 0] 38
              have hz_t136 : (w57.alloc (.cells #[.int .i64 0, .slice none 0 0] 38)).heap.size = w57.heap.size + 1 := World.size_alloc _ _
              have W_t137 := W_t135.next hb_t136
              clear W_t135
              have G_t137 := G_t135.next hb_t136
              clear G_t135
              have Y0_t137 := Y0_t135.next hb_t136
              clear Y0_t135
              have Y1_t137 := Y1_n.next hb_t136
              clear Y1_n
              have B0_t137 := B0_t135.next hb_t136
              clear B0_t135
              have B1_t137 := B1_t135.next hb_t136
              clear B1_t135
              have B2_t137 := B2_t135.next hb_t136
              clear B2_t135
              have Bw_t137 := Bw_t135.next hb_t136
              clear Bw_t135
              have Bx0_t137 := Bx0_t135.next hb_t136
              clear Bx0_t135
              have Bx1_t137 := Bx1_t135.next hb_t136
              clear Bx1_t135
              have Bg_t137 := Bg_t135.next hb_t136
              clear Bg_t135
              have hw_t137 := below_next hw_t135 hb_t136
              have hs_t137 := hb_t136.size
              refine hK.out _ _ ?_ (fun hHeld => ?_)
              focus ((try dsimp only); (exact ⟨by rw [B0_t137.cell]; rfl, by rw [B0_t137.cell]; rfl, by rw [B1_t137.cell]; rfl, by rw [B1_t137.cell]; rfl, by rw [B2_t137.cell]; rfl, by rw [B2_t137.cell]; rfl, by rw [B2_t137.cell]; rfl, by rw [Bw_t137.cell]; rfl, by rw [Bw_t137.cell]; rfl, by rw [Bx0_t137.cell]; rfl, by rw [Bx0_t137.cell]; rfl, by rw [Bx1_t137.cell]; rfl, by rw [Bx1_t137.cell]; rfl, by rw [Bg_t137.cell]; rfl, by rw [Bg_t137.cell]; rfl⟩))
              clear hK K
              try simp only [Act.put, pa, pb, pc]
              rw [HYb.out] at By_t136
              try rw [HYb.out]
              obtain ⟨we, HWE⟩ : ∃ we, Hid ((w57.alloc (.cells #[.int .i64 0, .slice none 0 0] 38)) = we) := ⟨_, Lib.hid rfl⟩
              rw [HWE.out] at hHeld hcz W_t137 G_t137 Y0_t137 Y1_t137 B0_t137 B1_t137 B2_t137 Bw_t137 Bx0_t137 Bx1_t137 Bg_t137 By_t136 hw_t137
              rw [HWE.out]
              refine rd1 5 (fun K hK => ?_)
              go_simp
              go_at_call 31
              refine (toWrite_c x2 _).mono ?_
              rintro e w58 ⟨rfl, hb58⟩
              have W_t138 := W_t137.next hb58
              clear W_t137
              have G_t138 := G_t137.next hb58
              clear G_t137
              have Y0_t138 := Y0_t137.next hb58
              clear Y0_t137
              have Y1_t138 := Y1_t137.next hb58
              clear Y1_t137
              have B0_t138 := B0_t137.next hb58
              clear B0_t137
              have B1_t138 := B1_t137.next hb58
              clear B1_t137
              have B2_t138 := B2_t137.next hb58
              clear B2_t137
              have Bw_t138 := Bw_t137.next hb58
              clear Bw_t137
              have Bx0_t138 := Bx0_t137.next hb58
              clear Bx0_t137
              have Bx1_t138 := Bx1_t137.next hb58
              clear Bx1_t137
              have Bg_t138 := Bg_t137.next hb58
              clear Bg_t137
              have By_t138 := By_t136.next hb58
              clear By_t136
              have hw_t138 := below_next hw_t137 hb58
              have hs_t138 := hb58.size
              have hcn58 := below_next hcz hb58
              go_wp2_with fail
              refine hK.out _ _ ?_ (fun hHeld => ?_)
              focus ((try dsimp only); (exact ⟨by rw [B0_t138.cell]; rfl, by rw [B0_t138.cell]; rfl, by rw [B1_t138.cell]; rfl, by rw [B1_t138.cell]; rfl, by rw [B2_t138.cell]; rfl, by rw [B2_t138.cell]; rfl, by rw [B2_t138.cell]; rfl, by rw [Bw_t138.cell]; rfl, by rw [Bw_t138.cell]; rfl, by rw [Bx0_t138.cell]; rfl, by rw [Bx0_t138.cell]; rfl, by rw [Bx1_t138.cell]; rfl, by rw [Bx1_t138.cell]; rfl, by rw [Bg_t138.cell]; rfl, by rw [Bg_t138.cell]; rfl⟩))
              clear hK K
              try simp only [Act.put, pa, pb, pc]
              refine rd1 6 (fun K hK => ?_)
              go_simp
              go_at_call 32
              have hgl := By_t138.lt
              refine (implWorkPutO Y0_t138 Y1_t138 hf0 hf1 hf2 hlen0 hlen1).mono ?_
              rw [HZ0.out, HV0.out, HV1.out]
              rintro e w59 ⟨VHh, rfl, Hh_n, hb59⟩
              have HNE : Hid (∀ k, VHh.ownBlock = some k → k ≠ yb) := Lib.hid (fun k hk => by have := (Hh_n.block_lt hk).1; omega)
              obtain ⟨bHh, nHh, cHh, rfl⟩ := Hh_n.slice
              clear Y0_t138
              clear Y1_t138
              have W_t139 := W_t138.next hb59
              clear W_t138
              have G_t139 := G_t138.next hb59
              clear G_t138
              have B0_t139 := B0_t138.next hb59
              clear B0_t138
              have B1_t139 := B1_t138.next hb59
              clear B1_t138
              have B2_t139 := B2_t138.next hb59
              clear B2_t138
              have Bw_t139 := Bw_t138.next hb59
              clear Bw_t138
              have Bx0_t139 := Bx0_t138.next hb59
              clear Bx0_t138
              have Bx1_t139 := Bx1_t138.next hb59
              clear Bx1_t138
              have Bg_t139 := Bg_t138.next hb59
              clear Bg_t138
              have By_t139 := By_t138.next hb59
              clear By_t138
              have hw_t139 := below_next hw_t138 hb59
              have hs_t139 := hb59.size
              have hcn59 := below_next hcn58 hb59
              go_wp2_with fail
              refine hK.out _ _ ?_ (fun hHeld => ?_)
              focus ((try dsimp only); (exact ⟨by rw [B0_t139.cell]; rfl, by rw [B0_t139.cell]; rfl, by rw [B1_t139.cell]; rfl, by rw [B1_t139.cell]; rfl, by rw [B2_t139.cell]; rfl, by rw [B2_t139.cell]; rfl, by rw [B2_t139.cell]; rfl, by rw [Bw_t139.cell]; rfl, by rw [Bw_t139.cell]; rfl, by rw [Bx0_t139.cell]; rfl, by rw [Bx0_t139.cell]; rfl, by rw [Bx1_t139.cell]; rfl, by rw [Bx1_t139.cell]; rfl, by rw [Bg_t139.cell]; rfl, by rw [Bg_t139.cell]; rfl⟩))
              clear hK K
              try simp only [Act.put, pa, pb, pc]
              (refine tk 7 ?_; try simp only [Act.put, pa, pb, pc])
              (refine tk 8 ?_; try simp only [Act.put, pa, pb, pc])
              (refine tk 9 ?_; try simp only [Act.put, pa, pb, pc])
              have d0 : w59.cell? ⟨yb, 0, none⟩ = some (.int .i64 0) := (by rw [By_t139.cell]; rfl)
              have d1 : w59.cell? ⟨yb, 1, none⟩ = some (.slice none 0 0) := (by rw [By_t139.cell]; rfl)
              have f0 := By_t139.free 0
              have f1 := By_t139.free 1
              have B0_s := (B0_t139.setOther (a := ⟨yb, 0, none⟩) (show w.heap.size ≠ yb from by omega) (.int .i64 vz0)).setOther (a := ⟨yb, 1, none⟩) (show w.heap.size ≠ yb from by omega) (.slice bHh nHh cHh)
              have B1_s := (B1_t139.setOther (a := ⟨yb, 0, none⟩) (show w.heap.size + 1 ≠ yb from by omega) (.int .i64 vz0)).setOther (a := ⟨yb, 1, none⟩) (show w.heap.size + 1 ≠ yb from by omega) (.slice bHh nHh cHh)
              have B2_s := (B2_t139.setOther (a := ⟨yb, 0, none⟩) (show w.heap.size + 2 ≠ yb from by omega) (.int .i64 vz0)).setOther (a := ⟨yb, 1, none⟩) (show w.heap.size + 2 ≠ yb from by omega) (.slice bHh nHh cHh)
              have Bw_s := (Bw_t139.setOther (a := ⟨yb, 0, none⟩) (show gW ≠ yb from by omega) (.int .i64 vz0)).setOther (a := ⟨yb, 1, none⟩) (show gW ≠ yb from by omega) (.slice bHh nHh cHh)
              have Bx0_s := (Bx0_t139.setOther (a := ⟨yb, 0, none⟩) (show w24.heap.size ≠ yb from by omega) (.int .i64 vz0)).setOther (a := ⟨yb, 1, none⟩) (show w24.heap.size ≠ yb from by omega) (.slice bHh nHh cHh)
              have Bx1_s := (Bx1_t139.setOther (a := ⟨yb, 0, none⟩) (show w25.heap.size ≠ yb from by omega) (.int .i64 vz0)).setOther (a := ⟨yb, 1, none⟩) (show w25.heap.size ≠ yb from by omega) (.slice bHh nHh cHh)
              have Bg_s := (Bg_t139.setOther (a := ⟨yb, 0, none⟩) (show gG ≠ yb from by omega) (.int .i64 vz0)).setOther (a := ⟨yb, 1, none⟩) (show gG ≠ yb from by omega) (.slice bHh nHh cHh)
              have By_s := (By_t139.set_ 0 (.int .i64 vz0)).set_ 1 (.slice bHh nHh cHh)
              have p_s := (Hh_n.setCell (a := ⟨yb, 0, none⟩) HNE.out (.int .i64 vz0)).setCell (a := ⟨yb, 1, none⟩) HNE.out (.slice bHh nHh cHh)
              have hcL : Below w55.heap.size w55 ((w59.setCell ⟨yb, 0, none⟩ (.int .i64 vz0)).setCell ⟨yb, 1, none⟩ (.slice bHh nHh cHh)) := (hcn59.setCell (show w55.heap.size ≤ yb from GG.out) _).setCell (show w55.heap.size ≤ yb from GG.out) _
              refine rd1 11 (fun K hK => ?_)
              go_simp
              refine hK.out _ _ ?_ (fun hHeld => ?_)
              focus ((try dsimp only); (exact ⟨by rw [B0_s.cell]; rfl, by rw [B0_s.cell]; rfl, by rw [B1_s.cell]; rfl, by rw [B1_s.cell]; rfl, by rw [B2_s.cell]; rfl, by rw [B2_s.cell]; rfl, by rw [B2_s.cell]; rfl, by rw [Bw_s.cell]; rfl, by rw [Bw_s.cell]; rfl, by rw [Bx0_s.cell]; rfl, by rw [Bx0_s.cell]; rfl, by rw [Bx1_s.cell]; rfl, by rw [Bx1_s.cell]; rfl, by rw [Bg_s.cell]; rfl, by rw [Bg_s.cell]; rfl⟩))
              clear hK K d0 d1 f0 f1
              try simp only [Act.put, pa, pb, pc]
              (refine tk 12 ?_; try simp only [Act.put, pa, pb, pc])
              refine wpAnyH_done (by kernel_rfl) ?_ _
              go_wp2
              go_meet
              case rel => exact ⟨_, bHh, nHh, cHh, rfl, rfl, By_s.cast rfl, p_s.low hcn58.size, GG.out, HNE.out, hcL⟩
          · go_simp
            obtain ⟨yb, HYb⟩ : ∃ yb, Hid (w56.heap.size = yb) := ⟨_, Lib.hid rfl⟩
            have ne_B0 : w.heap.size < yb := by have h1 := B0_t134.lt; have h3 := HYb.out; omega
            have ne_B1 : w.heap.size + 1 < yb := by have h1 := B1_t134.lt; have h3 := HYb.out; omega
            have ne_B2 : w.heap.size + 2 < yb := by have h1 := B2_t134.lt; have h3 := HYb.out; omega
            have ne_Bw : gW < yb := by have h1 := Bw_t134.lt; have h3 := HYb.out; omega
            have ne_Bx0 : w24.heap.size < yb := by have h1 := Bx0_t134.lt; have h3 := HYb.out; omega
            have ne_Bx1 : w25.heap.size < yb := by have h1 := Bx1_t134.lt; have h3 := HYb.out; omega
            have ne_Bg : gG < yb := by have h1 := Bg_t134.lt; have h3 := HYb.out; omega
            have GG : Hid (w55.heap.size ≤ yb) := Lib.hid (by have h1 := hcn56.size; have h3 := HYb.out; omega)
            have hcz := below_alloc hcn56 (.cells #[.int .i64 0, .slice none 0 0] 38)
            have hb_t135 := below_alloc (Below.refl _ w56) (.cells #[.int .i64 0, .slice none 0 0] 38)
            have By_t135 := blkA w56 #[.int .i64 0, .slice none 0 0] 38
            have hz_t135 : (w56.alloc (.cells #[.int .i64 0, .slice none 0 0] 38)).heap.size = w56.heap.size + 1 := World.size_alloc _ _
            have W_t136 := W_t134.next hb_t135
            clear W_t134
            have G_t136 := G_t134.next hb_t135
            clear G_t134
            have Y0_t136 := Y0_n.next hb_t135
            clear Y0_n
            have B0_t136 := B0_t134.next hb_t135
            clear B0_t134
            have B1_t136 := B1_t134.next hb_t135
            clear B1_t134
            have B2_t136 := B2_t134.next hb_t135
            clear B2_t134
            have Bw_t136 := Bw_t134.next hb_t135
            clear Bw_t134
            have Bx0_t136 := Bx0_t134.next hb_t135
            clear Bx0_t134
            have Bx1_t136 := Bx1_t134.next hb_t135
            clear Bx1_t134
            have Bg_t136 := Bg_t134.next hb_t135
            clear Bg_t134
            have hw_t136 := below_next hw_t134 hb_t135
            have hs_t136 := hb_t135.size
            refine hK.out _ _ ?_ (fun hHeld => ?_)
            focus ((try dsimp only); (exact ⟨by rw [B0_t136.cell]; rfl, by rw [B0_t136.cell]; rfl, by rw [B1_t136.cell]; rfl, by rw [B1_t136.cell]; rfl, by rw [B2_t136.cell]; rfl, by rw [B2_t136.cell]; rfl, by rw [B2_t136.cell]; rfl, by rw [Bw_t136.cell]; rfl, by rw [Bw_t136.cell]; rfl, by rw [Bx0_t136.cell]; rfl, by rw [Bx0_t136.cell]; rfl, by rw [Bx1_t136.cell]; rfl, by rw [Bx1_t136.cell]; rfl, by rw [Bg_t136.cell]; rfl, by rw [Bg_t136.cell]; rfl⟩))
            clear hK K
            try simp only [Act.put, pa, pb, pc]
            rw [HYb.out] at By_t135
            try rw [HYb.out]
            obtain ⟨we, HWE⟩ : ∃ we, Hid ((w56.alloc (.cells #[.int .i64 0, .slice none 0 0] 38)) = we) := ⟨_, Lib.hid rfl⟩
            rw [HWE.out] at hHeld hcz W_t136 G_t136 Y0_t136 B0_t136 B1_t136 B2_t136 Bw_t136 Bx0_t136 Bx1_t136 Bg_t136 By_t135 hw_t136
            rw [HWE.out]
            refine rd1 3 (fun K hK => ?_)
            go_simp
            go_at_call 20
            refine (toWork_c z1 A1 c1 l1 _ hc1 hlen1 ((hr1.below hw_t136).more hw_t136.size)).mono ?_
            rintro e w57 ⟨gY1, rfl, Y1_n, ge_Y10, lt_Y10, hb57⟩
            clear ge_Y10 lt_Y10
            have W_t137 := W_t136.next hb57
            clear W_t136
            have G_t137 := G_t136.next hb57
            clear G_t136
            have Y0_t137 := Y0_t136.next hb57
            clear Y0_t136
            have B0_t137 := B0_t136.next hb57
            clear B0_t136
            have B1_t137 := B1_t136.next hb57
            clear B1_t136
            have B2_t137 := B2_t136.next hb57
            clear B2_t136
            have Bw_t137 := Bw_t136.next hb57
            clear Bw_t136
            have Bx0_t137 := Bx0_t136.next hb57
            clear Bx0_t136
            have Bx1_t137 := Bx1_t136.next hb57
            clear Bx1_t136
            have Bg_t137 := Bg_t136.next hb57
            clear Bg_t136
            have By_t137 := By_t135.next hb57
            clear By_t135
            have hw_t137 := below_next hw_t136 hb57
            have hs_t137 := hb57.size
            have hcn57 := below_next hcz hb57
            go_wp2_with fail
            refine hK.out _ _ ?_ (fun hHeld => ?_)
            focus ((try dsimp only); (exact ⟨by rw [B0_t137.cell]; rfl, by rw [B0_t137.cell]; rfl, by rw [B1_t137.cell]; rfl, by rw [B1_t137.cell]; rfl, by rw [B2_t137.cell]; rfl, by rw [B2_t137.cell]; rfl, by rw [B2_t137.cell]; rfl, by rw [Bw_t137.cell]; rfl, by rw [Bw_t137.cell]; rfl, by rw [Bx0_t137.cell]; rfl, by rw [Bx0_t137.cell]; rfl, by rw [Bx1_t137.cell]; rfl, by rw [Bx1_t137.cell]; rfl, by rw [Bg_t137.cell]; rfl, by rw [Bg_t137.cell]; rfl⟩))
            clear hK K
            try simp only [Act.put, pa, pb, pc]
            refine rd1 5 (fun K hK => ?_)
            go_simp
            go_at_call 31
            refine (toWrite_c x2 _).mono ?_
            rintro e w58 ⟨rfl, hb58⟩
            have W_t138 := W_t137.next hb58
            clear W_t137
            have G_t138 := G_t137.next hb58
            clear G_t137
            have Y0_t138 := Y0_t137.next hb58
            clear Y0_t137
            have Y1_t138 := Y1_n.next hb58
            clear Y1_n
            have B0_t138 := B0_t137.next hb58
            clear B0_t137
            have B1_t138 := B1_t137.next hb58
            clear B1_t137
            have B2_t138 := B2_t137.next hb58
            clear B2_t137
            have Bw_t138 := Bw_t137.next hb58
            clear Bw_t137
            have Bx0_t138 := Bx0_t137.next hb58
            clear Bx0_t137
            have Bx1_t138 := Bx1_t137.next hb58
            clear Bx1_t137
            have Bg_t138 := Bg_t137.next hb58
            clear Bg_t137
            have By_t138 := By_t137.next hb58
            clear By_t137
            have hw_t138 := below_next hw_t137 hb58
            have hs_t138 := hb58.size
            have hcn58 := below_next hcn57 hb58
            go_wp2_with fail
            refine hK.out _ _ ?_ (fun hHeld => ?_)
            focus ((try dsimp only); (exact ⟨by rw [B0_t138.cell]; rfl, by rw [B0_t138.cell]; rfl, by rw [B1_t138.cell]; rfl, by rw [B1_t138.cell]; rfl, by rw [B2_t138.cell]; rfl, by rw [B2_t138.cell]; rfl, by rw [B2_t138.cell]; rfl, by rw [Bw_t138.cell]; rfl, by rw [Bw_t138.cell]; rfl, by rw [Bx0_t138.cell]; rfl, by rw [Bx0_t138.cell]; rfl, by rw [Bx1_t138.cell]; rfl, by rw [Bx1_t138.cell]; rfl, by rw [Bg_t138.cell]; rfl, by rw [Bg_t138.cell]; rfl⟩))
            clear hK K
            try simp only [Act.put, pa, pb, pc]
            refine rd1 6 (fun K hK => ?_)
            go_simp
            go_at_call 32
            have hgl := By_t138.lt
            refine (implWorkPutO Y0_t138 Y1_t138 hf0 hf1 hf2 hlen0 hlen1).mono ?_
            rw [HZ0.out, HV0.out, HV1.out]
            rintro e w59 ⟨VHh, rfl, Hh_n, hb59⟩
            have HNE : Hid (∀ k, VHh.ownBlock = some k → k ≠ yb) := Lib.hid (fun k hk => by have := (Hh_n.block_lt hk).1; omega)
            obtain ⟨bHh, nHh, cHh, rfl⟩ := Hh_n.slice
            clear Y0_t138
            clear Y1_t138
            have W_t139 := W_t138.next hb59
            clear W_t138
            have G_t139 := G_t138.next hb59
            clear G_t138
            have B0_t139 := B0_t138.next hb59
            clear B0_t138
            have B1_t139 := B1_t138.next hb59
            clear B1_t138
            have B2_t139 := B2_t138.next hb59
            clear B2_t138
            have Bw_t139 := Bw_t138.next hb59
            clear Bw_t138
            have Bx0_t139 := Bx0_t138.next hb59
            clear Bx0_t138
            have Bx1_t139 := Bx1_t138.next hb59
            clear Bx1_t138
            have Bg_t139 := Bg_t138.next hb59
            clear Bg_t138
            have By_t139 := By_t138.next hb59
            clear By_t138
            have hw_t139 := below_next hw_t138 hb59
            have hs_t139 := hb59.size
            have hcn59 := below_next hcn58 hb59
            go_wp2_with fail
            refine hK.out _ _ ?_ (fun hHeld => ?_)
            focus ((try dsimp only); (exact ⟨by rw [B0_t139.cell]; rfl, by rw [B0_t139.cell]; rfl, by rw [B1_t139.cell]; rfl, by rw [B1_t139.cell]; rfl, by rw [B2_t139.cell]; rfl, by rw [B2_t139.cell]; rfl, by rw [B2_t139.cell]; rfl, by rw [Bw_t139.cell]; rfl, by rw [Bw_t139.cell]; rfl, by rw [Bx0_t139.cell]; rfl, by rw [Bx0_t139.cell]; rfl, by rw [Bx1_t139.cell]; rfl, by rw [Bx1_t139.cell]; rfl, by rw [Bg_t139.cell]; rfl, by rw [Bg_t139.cell]; rfl⟩))
            clear hK K
            try simp only [Act.put, pa, pb, pc]
            (refine tk 7 ?_; try simp only [Act.put, pa, pb, pc])
            (refine tk 8 ?_; try simp only [Act.put, pa, pb, pc])
            (refine tk 9 ?_; try simp only [Act.put, pa, pb, pc])
            have d0 : w59.cell? ⟨yb, 0, none⟩ = some (.int .i64 0) := (by rw [By_t139.cell]; rfl)
            have d1 : w59.cell? ⟨yb, 1, none⟩ = some (.slice none 0 0) := (by rw [By_t139.cell]; rfl)
            have f0 := By_t139.free 0
            have f1 := By_t139.free 1
            have B0_s := (B0_t139.setOther (a := ⟨yb, 0, none⟩) (show w.heap.size ≠ yb from by omega) (.int .i64 vz0)).setOther (a := ⟨yb, 1, none⟩) (show w.heap.size ≠ yb from by omega) (.slice bHh nHh cHh)
            have B1_s := (B1_t139.setOther (a := ⟨yb, 0, none⟩) (show w.heap.size + 1 ≠ yb from by omega) (.int .i64 vz0)).setOther (a := ⟨yb, 1, none⟩) (show w.heap.size + 1 ≠ yb from by omega) (.slice bHh nHh cHh)
            have B2_s := (B2_t139.setOther (a := ⟨yb, 0, none⟩) (show w.heap.size + 2 ≠ yb from by omega) (.int .i64 vz0)).setOther (a := ⟨yb, 1, none⟩) (show w.heap.size + 2 ≠ yb from by omega) (.slice bHh nHh cHh)
            have Bw_s := (Bw_t139.setOther (a := ⟨yb, 0, none⟩) (show gW ≠ yb from by omega) (.int .i64 vz0)).setOther (a := ⟨yb, 1, none⟩) (show gW ≠ yb from by omega) (.slice bHh nHh cHh)
            have Bx0_s := (Bx0_t139.setOther (a := ⟨yb, 0, none⟩) (show w24.heap.size ≠ yb from by omega) (.int .i64 vz0)).setOther (a := ⟨yb, 1, none⟩) (show w24.heap.size ≠ yb from by omega) (.slice bHh nHh cHh)
            have Bx1_s := (Bx1_t139.setOther (a := ⟨yb, 0, none⟩) (show w25.heap.size ≠ yb from by omega) (.int .i64 vz0)).setOther (a := ⟨yb, 1, none⟩) (show w25.heap.size ≠ yb from by omega) (.slice bHh nHh cHh)
            have Bg_s := (Bg_t139.setOther (a := ⟨yb, 0, none⟩) (show gG ≠ yb from by omega) (.int .i64 vz0)).setOther (a := ⟨yb, 1, none⟩) (show gG ≠ yb from by omega) (.slice bHh nHh cHh)
            have By_s := (By_t139.set_ 0 (.int .i64 vz0)).set_ 1 (.slice bHh nHh cHh)
            have p_s := (Hh_n.setCell (a := ⟨yb, 0, none⟩) HNE.out (.int .i64 vz0)).setCell (a := ⟨yb, 1, none⟩) HNE.out (.slice bHh nHh cHh)
            have hcL : Below w55.heap.size w55 ((w59.setCell ⟨yb, 0, none⟩ (.int .i64 vz0)).setCell ⟨yb, 1, none⟩ (.slice bHh nHh cHh)) := (hcn59.setCell (show w55.heap.size ≤ yb from GG.out) _).setCell (show w55.heap.size ≤ yb from GG.out) _
            refine rd1 11 (fun K hK => ?_)
            go_simp
            refine hK.out _ _ ?_ (fun hHeld => ?_)
            focus ((try dsimp only); (exact ⟨by rw [B0_s.cell]; rfl, by rw [B0_s.cell]; rfl, by rw [B1_s.cell]; rfl, by rw [B1_s.cell]; rfl, by rw [B2_s.cell]; rfl, by rw [B2_s.cell]; rfl, by rw [B2_s.cell]; rfl, by rw [Bw_s.cell]; rfl, by rw [Bw_s.cell]; rfl, by rw [Bx0_s.cell]; rfl, by rw [Bx0_s.cell]; rfl, by rw [Bx1_s.cell]; rfl, by rw [Bx1_s.cell]; rfl, by rw [Bg_s.cell]; rfl, by rw [Bg_s.cell]; rfl⟩))
            clear hK K d0 d1 f0 f1
            try simp only [Act.put, pa, pb, pc]
            (refine tk 12 ?_; try simp only [Act.put, pa, pb, pc])
            refine wpAnyH_done (by kernel_rfl) ?_ _
            go_wp2
            go_meet
            case rel => exact ⟨_, bHh, nHh, cHh, rfl, rfl, By_s.cast rfl, p_s.low hcn58.size, GG.out, HNE.out, hcL⟩
        · go_simp
          obtain ⟨yb, HYb⟩ : ∃ yb, Hid (wd.heap.size = yb) := ⟨_, Lib.hid rfl⟩
          have ne_B0 : w.heap.size < yb := by have h1 := B0_t133.lt; have h3 := HYb.out; omega
          have ne_B1 : w.heap.size + 1 < yb := by have h1 := B1_t133.lt; have h3 := HYb.out; omega
          have ne_B2 : w.heap.size + 2 < yb := by have h1 := B2_t133.lt; have h3 := HYb.out; omega
          have ne_Bw : gW < yb := by have h1 := Bw_t133.lt; have h3 := HYb.out; omega
          have ne_Bx0 : w24.heap.size < yb := by have h1 := Bx0_t133.lt; have h3 := HYb.out; omega
          have ne_Bx1 : w25.heap.size < yb := by have h1 := Bx1_t133.lt; have h3 := HYb.out; omega
          have ne_Bg : gG < yb := by have h1 := Bg_t133.lt; have h3 := HYb.out; omega
          have GG : Hid (w55.heap.size ≤ yb) := Lib.hid (by have h1 := hc_t132.size; have h3 := HYb.out; omega)
          have hcz := below_alloc hc_t132 (.cells #[.int .i64 0, .slice none 0 0] 38)
          have hb_t134 := below_alloc (Below.refl _ wd) (.cells #[.int .i64 0, .slice none 0 0] 38)
          have By_t134 := blkA wd #[.int .i64 0, .slice none 0 0] 38
          have hz_t134 : (wd.alloc (.cells #[.int .i64 0, .slice none 0 0] 38)).heap.size = wd.heap.size + 1 := World.size_alloc _ _
          have W_t135 := W_t133.next hb_t134
          clear W_t133
          have G_t135 := G_t133.next hb_t134
          clear G_t133
          have B0_t135 := B0_t133.next hb_t134
          clear B0_t133
          have B1_t135 := B1_t133.next hb_t134
          clear B1_t133
          have B2_t135 := B2_t133.next hb_t134
          clear B2_t133
          have Bw_t135 := Bw_t133.next hb_t134
          clear Bw_t133
          have Bx0_t135 := Bx0_t133.next hb_t134
          clear Bx0_t133
          have Bx1_t135 := Bx1_t133.next hb_t134
          clear Bx1_t133
          have Bg_t135 := Bg_t133.next hb_t134
          clear Bg_t133
          have hw_t135 := below_next hw_t133 hb_t134
          have hs_t135 := hb_t134.size
          refine hK.out _ _ ?_ (fun hHeld => ?_)
          focus ((try dsimp only); (exact ⟨by rw [B0_t135.cell]; rfl, by rw [B0_t135.cell]; rfl, by rw [B1_t135.cell]; rfl, by rw [B1_t135.cell]; rfl, by rw [B2_t135.cell]; rfl, by rw [B2_t135.cell]; rfl, by rw [B2_t135.cell]; rfl, by rw [Bw_t135.cell]; rfl, by rw [Bw_t135.cell]; rfl, by rw [Bx0_t135.cell]; rfl, by rw [Bx0_t135.cell]; rfl, by rw [Bx1_t135.cell]; rfl, by rw [Bx1_t135.cell]; rfl, by rw [Bg_t135.cell]; rfl, by rw [Bg_t135.cell]; rfl⟩))
          clear hK K
          try simp only [Act.put, pa, pb, pc]
          rw [HYb.out] at By_t134
          try rw [HYb.out]
          obtain ⟨we, HWE⟩ : ∃ we, Hid ((wd.alloc (.cells #[.int .i64 0, .slice none 0 0] 38)) = we) := ⟨_, Lib.hid rfl⟩
          rw [HWE.out] at hHeld hcz W_t135 G_t135 B0_t135 B1_t135 B2_t135 Bw_t135 Bx0_t135 Bx1_t135 Bg_t135 By_t134 hw_t135
          rw [HWE.out]
          refine rd1 1 (fun K hK => ?_)
          go_simp
          go_at_call 19
          refine (toVers_c z0 A0 c0 l0 _ hc0 hlen0 ((hr0.below hw_t135).more hw_t135.size)).mono ?_
          rintro e w56 ⟨gY0, rfl, Y0_n, ge_Y00, lt_Y00, hb56⟩
          clear ge_Y00 lt_Y00
          have W_t136 := W_t135.next hb56
          clear W_t135
          have G_t136 := G_t135.next hb56
          clear G_t135
          have B0_t136 := B0_t135.next hb56
          clear B0_t135
          have B1_t136 := B1_t135.next hb56
          clear B1_t135
          have B2_t136 := B2_t135.next hb56
          clear B2_t135
          have Bw_t136 := Bw_t135.next hb56
          clear Bw_t135
          have Bx0_t136 := Bx0_t135.next hb56
          clear Bx0_t135
          have Bx1_t136 := Bx1_t135.next hb56
          clear Bx1_t135
          have Bg_t136 := Bg_t135.next hb56
          clear Bg_t135
          have By_t136 := By_t134.next hb56
          clear By_t134
          have hw_t136 := below_next hw_t135 hb56
          have hs_t136 := hb56.size
          have hcn56 := below_next hcz hb56
          go_wp2_with fail
          refine hK.out _ _ ?_ (fun hHeld => ?_)
          focus ((try dsimp only); (exact ⟨by rw [B0_t136.cell]; rfl, by rw [B0_t136.cell]; rfl, by rw [B1_t136.cell]; rfl, by rw [B1_t136.cell]; rfl, by rw [B2_t136.cell]; rfl, by rw [B2_t136.cell]; rfl, by rw [B2_t136.cell]; rfl, by rw [Bw_t136.cell]; rfl, by rw [Bw_t136.cell]; rfl, by rw [Bx0_t136.cell]; rfl, by rw [Bx0_t136.cell]; rfl, by rw [Bx1_t136.cell]; rfl, by rw [Bx1_t136.cell]; rfl, by rw [Bg_t136.cell]; rfl, by rw [Bg_t136.cell]; rfl⟩))
          clear hK K
          try simp only [Act.put, pa, pb, pc]
          refine rd1 3 (fun K hK => ?_)
          go_simp
          go_at_call 20
          refine (toWork_c z1 A1 c1 l1 _ hc1 hlen1 ((hr1.below hw_t136).more hw_t136.size)).mono ?_
          rintro e w57 ⟨gY1, rfl, Y1_n, ge_Y10, lt_Y10, hb57⟩
          clear ge_Y10 lt_Y10
          have W_t137 := W_t136.next hb57
          clear W_t136
          have G_t137 := G_t136.next hb57
          clear G_t136
          have Y0_t137 := Y0_n.next hb57
          clear Y0_n
          have B0_t137 := B0_t136.next hb57
          clear B0_t136
          have B1_t137 := B1_t136.next hb57
          clear B1_t136
          have B2_t137 := B2_t136.next hb57
          clear B2_t136
          have Bw_t137 := Bw_t136.next hb57
          clear Bw_t136
          have Bx0_t137 := Bx0_t136.next hb57
          clear Bx0_t136
          have Bx1_t137 := Bx1_t136.next hb57
          clear Bx1_t136
          have Bg_t137 := Bg_t136.next hb57
          clear Bg_t136
          have By_t137 := By_t136.next hb57
          clear By_t136
          have hw_t137 := below_next hw_t136 hb57
          have hs_t137 := hb57.size
          have hcn57 := below_next hcn56 hb57
          go_wp2_with fail
          refine hK.out _ _ ?_ (fun hHeld => ?_)
          focus ((try dsimp only); (exact ⟨by rw [B0_t137.cell]; rfl, by rw [B0_t137.cell]; rfl, by rw [B1_t137.cell]; rfl, by rw [B1_t137.cell]; rfl, by rw [B2_t137.cell]; rfl, by rw [B2_t137.cell]; rfl, by rw [B2_t137.cell]; rfl, by rw [Bw_t137.cell]; rfl, by rw [Bw_t137.cell]; rfl, by rw [Bx0_t137.cell]; rfl, by rw [Bx0_t137.cell]; rfl, by rw [Bx1_t137.cell]; rfl, by rw [Bx1_t137.cell]; rfl, by rw [Bg_t137.cell]; rfl, by rw [Bg_t137.cell]; rfl⟩))
          clear hK K
          try simp only [Act.put, pa, pb, pc]
          refine rd1 5 (fun K hK => ?_)
          go_simp
          go_at_call 31
          refine (toWrite_c x2 _).mono ?_
          rintro e w58 ⟨rfl, hb58⟩
          have W_t138 := W_t137.next hb58
          clear W_t137
          have G_t138 := G_t137.next hb58
          clear G_t137
          have Y0_t138 := Y0_t137.next hb58
          clear Y0_t137
          have Y1_t138 := Y1_n.next hb58
          clear Y1_n
          have B0_t138 := B0_t137.next hb58
          clear B0_t137
          have B1_t138 := B1_t137.next hb58
          clear B1_t137
          have B2_t138 := B2_t137.next hb58
          clear B2_t137
          have Bw_t138 := Bw_t137.next hb58
          clear Bw_t137
          have Bx0_t138 := Bx0_t137.next hb58
          clear Bx0_t137
          have Bx1_t138 := Bx1_t137.next hb58
          clear Bx1_t137
          have Bg_t138 := Bg_t137.next hb58
          clear Bg_t137
          have By_t138 := By_t137.next hb58
          clear By_t137
          have hw_t138 := below_next hw_t137 hb58
          have hs_t138 := hb58.size
          have hcn58 := below_next hcn57 hb58
          go_wp2_with fail
          refine hK.out _ _ ?_ (fun hHeld => ?_)
          focus ((try dsimp only); (exact ⟨by rw [B0_t138.cell]; rfl, by rw [B0_t138.cell]; rfl, by rw [B1_t138.cell]; rfl, by rw [B1_t138.cell]; rfl, by rw [B2_t138.cell]; rfl, by rw [B2_t138.cell]; rfl, by rw [B2_t138.cell]; rfl, by rw [Bw_t138.cell]; rfl, by rw [Bw_t138.cell]; rfl, by rw [Bx0_t138.cell]; rfl, by rw [Bx0_t138.cell]; rfl, by rw [Bx1_t138.cell]; rfl, by rw [Bx1_t138.cell]; rfl, by rw [Bg_t138.cell]; rfl, by rw [Bg_t138.cell]; rfl⟩))
          clear hK K
          try simp only [Act.put, pa, pb, pc]
          refine rd1 6 (fun K hK => ?_)
          go_simp
          go_at_call 32
          have hgl := By_t138.lt
          refine (implWorkPutO Y0_t138 Y1_t138 hf0 hf1 hf2 hlen0 hlen1).mono ?_
          rw [HZ0.out, HV0.out, HV1.out]
          rintro e w59 ⟨VHh, rfl, Hh_n, hb59⟩
          have HNE : Hid (∀ k, VHh.ownBlock = some k → k ≠ yb) := Lib.hid (fun k hk => by have := (Hh_n.block_lt hk).1; omega)
          obtain ⟨bHh, nHh, cHh, rfl⟩ := Hh_n.slice
          clear Y0_t138
          clear Y1_t138
          have W_t139 := W_t138.next hb59
          clear W_t138
          have G_t139 := G_t138.next hb59
          clear G_t138
          have B0_t139 := B0_t138.next hb59
          clear B0_t138
          have B1_t139 := B1_t138.next hb59
          clear B1_t138
          have B2_t139 := B2_t138.next hb59
          clear B2_t138
          have Bw_t139 := Bw_t138.next hb59
          clear Bw_t138
          have Bx0_t139 := Bx0_t138.next hb59
          clear Bx0_t138
          have Bx1_t139 := Bx1_t138.next hb59
          clear Bx1_t138
          have Bg_t139 := Bg_t138.next hb59
          clear Bg_t138
          have By_t139 := By_t138.next hb59
          clear By_t138
          have hw_t139 := below_next hw_t138 hb59
          have hs_t139 := hb59.size
          have hcn59 := below_next hcn58 hb59
          go_wp2_with fail
          refine hK.out _ _ ?_ (fun hHeld => ?_)
          focus ((try dsimp only); (exact ⟨by rw [B0_t139.cell]; rfl, by rw [B0_t139.cell]; rfl, by rw [B1_t139.cell]; rfl, by rw [B1_t139.cell]; rfl, by rw [B2_t139.cell]; rfl, by rw [B2_t139.cell]; rfl, by rw [B2_t139.cell]; rfl, by rw [Bw_t139.cell]; rfl, by rw [Bw_t139.cell]; rfl, by rw [Bx0_t139.cell]; rfl, by rw [Bx0_t139.cell]; rfl, by rw [Bx1_t139.cell]; rfl, by rw [Bx1_t139.cell]; rfl, by rw [Bg_t139.cell]; rfl, by rw [Bg_t139.cell]; rfl⟩))
          clear hK K
          try simp only [Act.put, pa, pb, pc]
          (refine tk 7 ?_; try simp only [Act.put, pa, pb, pc])
          (refine tk 8 ?_; try simp only [Act.put, pa, pb, pc])
          (refine tk 9 ?_; try simp only [Act.put, pa, pb, pc])
          have d0 : w59.cell? ⟨yb, 0, none⟩ = some (.int .i64 0) := (by rw [By_t139.cell]; rfl)
          have d1 : w59.cell? ⟨yb, 1, none⟩ = some (.slice none 0 0) := (by rw [By_t139.cell]; rfl)
          have f0 := By_t139.free 0
          have f1 := By_t139.free 1
          have B0_s := (B0_t139.setOther (a := ⟨yb, 0, none⟩) (show w.heap.size ≠ yb from by omega) (.int .i64 vz0)).setOther (a := ⟨yb, 1, none⟩) (show w.heap.size ≠ yb from by omega) (.slice bHh nHh cHh)
          have B1_s := (B1_t139.setOther (a := ⟨yb, 0, none⟩) (show w.heap.size + 1 ≠ yb from by omega) (.int .i64 vz0)).setOther (a := ⟨yb, 1, none⟩) (show w.heap.size + 1 ≠ yb from by omega) (.slice bHh nHh cHh)
          have B2_s := (B2_t139.setOther (a := ⟨yb, 0, none⟩) (show w.heap.size + 2 ≠ yb from by omega) (.int .i64 vz0)).setOther (a := ⟨yb, 1, none⟩) (show w.heap.size + 2 ≠ yb from by omega) (.slice bHh nHh cHh)
          have Bw_s := (Bw_t139.setOther (a := ⟨yb, 0, none⟩) (show gW ≠ yb from by omega) (.int .i64 vz0)).setOther (a := ⟨yb, 1, none⟩) (show gW ≠ yb from by omega) (.slice bHh nHh cHh)
          have Bx0_s := (Bx0_t139.setOther (a := ⟨yb, 0, none⟩) (show w24.heap.size ≠ yb from by omega) (.int .i64 vz0)).setOther (a := ⟨yb, 1, none⟩) (show w24.heap.size ≠ yb from by omega) (.slice bHh nHh cHh)
          have Bx1_s := (Bx1_t139.setOther (a := ⟨yb, 0, none⟩) (show w25.heap.size ≠ yb from by omega) (.int .i64 vz0)).setOther (a := ⟨yb, 1, none⟩) (show w25.heap.size ≠ yb from by omega) (.slice bHh nHh cHh)
          have Bg_s := (Bg_t139.setOther (a := ⟨yb, 0, none⟩) (show gG ≠ yb from by omega) (.int .i64 vz0)).setOther (a := ⟨yb, 1, none⟩) (show gG ≠ yb from by omega) (.slice bHh nHh cHh)
          have By_s := (By_t139.set_ 0 (.int .i64 vz0)).set_ 1 (.slice bHh nHh cHh)
          have p_s := (Hh_n.setCell (a := ⟨yb, 0, none⟩) HNE.out (.int .i64 vz0)).setCell (a := ⟨yb, 1, none⟩) HNE.out (.slice bHh nHh cHh)
          have hcL : Below w55.heap.size w55 ((w59.setCell ⟨yb, 0, none⟩ (.int .i64 vz0)).setCell ⟨yb, 1, none⟩ (.slice bHh nHh cHh)) := (hcn59.setCell (show w55.heap.size ≤ yb from GG.out) _).setCell (show w55.heap.size ≤ yb from GG.out) _
          refine rd1 11 (fun K hK => ?_)
          go_simp
          refine hK.out _ _ ?_ (fun hHeld => ?_)
          focus ((try dsimp only); (exact ⟨by rw [B0_s.cell]; rfl, by rw [B0_s.cell]; rfl, by rw [B1_s.cell]; rfl, by rw [B1_s.cell]; rfl, by rw [B2_s.cell]; rfl, by rw [B2_s.cell]; rfl, by rw [B2_s.cell]; rfl, by rw [Bw_s.cell]; rfl, by rw [Bw_s.cell]; rfl, by rw [Bx0_s.cell]; rfl, by rw [Bx0_s.cell]; rfl, by rw [Bx1_s.cell]; rfl, by rw [Bx1_s.cell]; rfl, by rw [Bg_s.cell]; rfl, by rw [Bg_s.cell]; rfl⟩))
          clear hK K d0 d1 f0 f1
          try simp only [Act.put, pa, pb, pc]
          (refine tk 12 ?_; try simp only [Act.put, pa, pb, pc])
          refine wpAnyH_done (by kernel_rfl) ?_ _
          go_wp2
          go_meet
          case rel => exact ⟨_, bHh, nHh, cHh, rfl, rfl, By_s.cast rfl, p_s.low hcn58.size, GG.out, HNE.out, hcL⟩
      case rest =>
        obtain ⟨gHh, bHh, nHh, cHh, rfl, rfl, Bh_c, Hh_n, hgg_Hh, hne_Hh, hbc_Hh⟩ := hcut
        obtain ⟨wcHh, HWCHh⟩ : ∃ x, Hid (wc = x) := ⟨_, Lib.hid rfl⟩
        rw [HWCHh.out] at Bh_c Hh_n hbc_Hh
        rw [HWCHh.out]
        have W_t182 := W_t131.next hbc_Hh
        clear W_t131
        have G_t182 := G_t131.next hbc_Hh
        clear G_t131
        have B0_t182 := B0_t131.next hbc_Hh
        clear B0_t131
        have B1_t182 := B1_t131.next hbc_Hh
        clear B1_t131
        have B2_t182 := B2_t131.next hbc_Hh
        clear B2_t131
        have Bw_t182 := Bw_t131.next hbc_Hh
        clear Bw_t131
        have Bx0_t182 := Bx0_t131.next hbc_Hh
        clear Bx0_t131
        have Bx1_t182 := Bx1_t131.next hbc_Hh
        clear Bx1_t131
        have Bg_t182 := Bg_t131.next hbc_Hh
        clear Bg_t131
        have hw_t182 := below_next hw_t131 hbc_Hh
        have hs_t182 := hbc_Hh.size
        have ge_Hh : ∀ g, (Value.slice bHh nHh cHh).ownBlock = some g → w55.heap.size ≤ g := fun g hg => (Hh_n.block_lt hg).1
        have lt_Hh : ∀ g, (Value.slice bHh nHh cHh).ownBlock = some g → g < wcHh.heap.size := fun g hg => (Hh_n.block_lt hg).2
        have hgl_Hh := Bh_c.lt
        have qB00 : wcHh.cell? ⟨w.heap.size, 0, none⟩ = some (.int .i64 z0) := by rw [B0_t182.cell]; rfl
        have qB01 : wcHh.cell? ⟨w.heap.size, 1, none⟩ = some (.slice A0 l0.length c0) := by rw [B0_t182.cell]; rfl
        have qB10 : wcHh.cell? ⟨w.heap.size + 1, 0, none⟩ = some (.int .i64 z1) := by rw [B1_t182.cell]; rfl
        have qB11 : wcHh.cell? ⟨w.heap.size + 1, 1, none⟩ = some (.slice A1 l1.length c1) := by rw [B1_t182.cell]; rfl
        have qB20 : wcHh.cell? ⟨w.heap.size + 2, 0, none⟩ = some (.string x2.k) := by rw [B2_t182.cell]; rfl
        have qB21 : wcHh.cell? ⟨w.heap.size + 2, 1, none⟩ = some (.int .i64 x2.n) := by rw [B2_t182.cell]; rfl
        have qB22 : wcHh.cell? ⟨w.heap.size + 2, 2, none⟩ = some (.bool x2.g) := by rw [B2_t182.cell]; rfl
        have qBw0 : wcHh.cell? ⟨gW, 0, none⟩ = some (.int .i64 vz0) := by rw [Bw_t182.cell]; rfl
        have qBw1 : wcHh.cell? ⟨gW, 1, none⟩ = some (.slice bW nW cW) := by rw [Bw_t182.cell]; rfl
        have qBx00 : wcHh.cell? ⟨w24.heap.size, 0, none⟩ = some (.int .i64 z0) := by rw [Bx0_t182.cell]; rfl
        have qBx01 : wcHh.cell? ⟨w24.heap.size, 1, none⟩ = some (.slice (some ⟨gX0, 0, none⟩) l0.length l0.length) := by rw [Bx0_t182.cell]; rfl
        have qBx10 : wcHh.cell? ⟨w25.heap.size, 0, none⟩ = some (.int .i64 z1) := by rw [Bx1_t182.cell]; rfl
        have qBx11 : wcHh.cell? ⟨w25.heap.size, 1, none⟩ = some (.slice (some ⟨gX1, 0, none⟩) l1.length l1.length) := by rw [Bx1_t182.cell]; rfl
        have qBg0 : wcHh.cell? ⟨gG, 0, none⟩ = some (.int .i64 vz0) := by rw [Bg_t182.cell]; rfl
        have qBg1 : wcHh.cell? ⟨gG, 1, none⟩ = some (.slice bG nG cG) := by rw [Bg_t182.cell]; rfl
        have qBh0 : wcHh.cell? ⟨gHh, 0, none⟩ = some (.int .i64 vz0) := by rw [Bh_c.cell]; rfl
        have qBh1 : wcHh.cell? ⟨gHh, 1, none⟩ = some (.slice bHh nHh cHh) := by rw [Bh_c.cell]; rfl
        go_wp2_with fail
        clear qB00 qB01 qB10 qB11 qB20 qB21 qB22 qBw0 qBw1 qBx00 qBx01 qBx10 qBx11 qBg0 qBg1 qBh0 qBh1
        refine (eqWork_c vz0 vz0 _ _ vl0 vl0 _ _ _ Hh_n W_t182 (by omega) (by omega)).mono ?_
        rintro e w76 ⟨rfl, hb76⟩
        rw [HE0.out]
        have W_t183 := W_t182.next hb76
        clear W_t182
        have G_t183 := G_t182.next hb76
        clear G_t182
        have Hh_t183 := Hh_n.next hb76
        clear Hh_n
        have B0_t183 := B0_t182.next hb76
        clear B0_t182
        have B1_t183 := B1_t182.next hb76
        clear B1_t182
        have B2_t183 := B2_t182.next hb76
        clear B2_t182
        have Bw_t183 := Bw_t182.next hb76
        clear Bw_t182
        have Bx0_t183 := Bx0_t182.next hb76
        clear Bx0_t182
        have Bx1_t183 := Bx1_t182.next hb76
        clear Bx1_t182
        have Bg_t183 := Bg_t182.next hb76
        clear Bg_t182
        have Bh_t183 := Bh_c.next hb76
        clear Bh_c
        have hw_t183 := below_next hw_t182 hb76
        have hs_t183 := hb76.size
        have qB00 : w76.cell? ⟨w.heap.size, 0, none⟩ = some (.int .i64 z0) := by rw [B0_t183.cell]; rfl
        have qB01 : w76.cell? ⟨w.heap.size, 1, none⟩ = some (.slice A0 l0.length c0) := by rw [B0_t183.cell]; rfl
        have qB10 : w76.cell? ⟨w.heap.size + 1, 0, none⟩ = some (.int .i64 z1) := by rw [B1_t183.cell]; rfl
        have qB11 : w76.cell? ⟨w.heap.size + 1, 1, none⟩ = some (.slice A1 l1.length c1) := by rw [B1_t183.cell]; rfl
        have qB20 : w76.cell? ⟨w.heap.size + 2, 0, none⟩ = some (.string x2.k) := by rw [B2_t183.cell]; rfl
        have qB21 : w76.cell? ⟨w.heap.size + 2, 1, none⟩ = some (.int .i64 x2.n) := by rw [B2_t183.cell]; rfl
        have qB22 : w76.cell? ⟨w.heap.size + 2, 2, none⟩ = some (.bool x2.g) := by rw [B2_t183.cell]; rfl
        have qBw0 : w76.cell? ⟨gW, 0, none⟩ = some (.int .i64 vz0) := by rw [Bw_t183.cell]; rfl
        have qBw1 : w76.cell? ⟨gW, 1, none⟩ = some (.slice bW nW cW) := by rw [Bw_t183.cell]; rfl
        have qBx00 : w76.cell? ⟨w24.heap.size, 0, none⟩ = some (.int .i64 z0) := by rw [Bx0_t183.cell]; rfl
        have qBx01 : w76.cell? ⟨w24.heap.size, 1, none⟩ = some (.slice (some ⟨gX0, 0, none⟩) l0.length l0.length) := by rw [Bx0_t183.cell]; rfl
        have qBx10 : w76.cell? ⟨w25.heap.size, 0, none⟩ = some (.int .i64 z1) := by rw [Bx1_t183.cell]; rfl
        have qBx11 : w76.cell? ⟨w25.heap.size, 1, none⟩ = some (.slice (some ⟨gX1, 0, none⟩) l1.length l1.length) := by rw [Bx1_t183.cell]; rfl
        have qBg0 : w76.cell? ⟨gG, 0, none⟩ = some (.int .i64 vz0) := by rw [Bg_t183.cell]; rfl
        have qBg1 : w76.cell? ⟨gG, 1, none⟩ = some (.slice bG nG cG) := by rw [Bg_t183.cell]; rfl
        have qBh0 : w76.cell? ⟨gHh, 0, none⟩ = some (.int .i64 vz0) := by rw [Bh_t183.cell]; rfl
        have qBh1 : w76.cell? ⟨gHh, 1, none⟩ = some (.slice bHh nHh cHh) := by rw [Bh_t183.cell]; rfl
        go_wp2_with fail
        clear qB00 qB01 qB10 qB11 qB20 qB21 qB22 qBw0 qBw1 qBx00 qBx01 qBx10 qBx11 qBg0 qBg1 qBh0 qBh1
        refine (heldWork_c vz0 _ vl0.length _ 1 _ G_t183 (by omega) (by omega)).mono ?_
        rintro e w77 ⟨rfl, hb77⟩
        have W_t184 := W_t183.next hb77
        clear W_t183
        have G_t184 := G_t183.next hb77
        clear G_t183
        have Hh_t184 := Hh_t183.next hb77
        clear Hh_t183
        have B0_t184 := B0_t183.next hb77
        clear B0_t183
        have B1_t184 := B1_t183.next hb77
        clear B1_t183
        have B2_t184 := B2_t183.next hb77
        clear B2_t183
        have Bw_t184 := Bw_t183.next hb77
        clear Bw_t183
        have Bx0_t184 := Bx0_t183.next hb77
        clear Bx0_t183
        have Bx1_t184 := Bx1_t183.next hb77
        clear Bx1_t183
        have Bg_t184 := Bg_t183.next hb77
        clear Bg_t183
        have Bh_t184 := Bh_t183.next hb77
        clear Bh_t183
        have hw_t184 := below_next hw_t183 hb77
        have hs_t184 := hb77.size
        have qB00 : w77.cell? ⟨w.heap.size, 0, none⟩ = some (.int .i64 z0) := by rw [B0_t184.cell]; rfl
        have qB01 : w77.cell? ⟨w.heap.size, 1, none⟩ = some (.slice A0 l0.length c0) := by rw [B0_t184.cell]; rfl
        have qB10 : w77.cell? ⟨w.heap.size + 1, 0, none⟩ = some (.int .i64 z1) := by rw [B1_t184.cell]; rfl
        have qB11 : w77.cell? ⟨w.heap.size + 1, 1, none⟩ = some (.slice A1 l1.length c1) := by rw [B1_t184.cell]; rfl
        have qB20 : w77.cell? ⟨w.heap.size + 2, 0, none⟩ = some (.string x2.k) := by rw [B2_t184.cell]; rfl
        have qB21 : w77.cell? ⟨w.heap.size + 2, 1, none⟩ = some (.int .i64 x2.n) := by rw [B2_t184.cell]; rfl
        have qB22 : w77.cell? ⟨w.heap.size + 2, 2, none⟩ = some (.bool x2.g) := by rw [B2_t184.cell]; rfl
        have qBw0 : w77.cell? ⟨gW, 0, none⟩ = some (.int .i64 vz0) := by rw [Bw_t184.cell]; rfl
        have qBw1 : w77.cell? ⟨gW, 1, none⟩ = some (.slice bW nW cW) := by rw [Bw_t184.cell]; rfl
        have qBx00 : w77.cell? ⟨w24.heap.size, 0, none⟩ = some (.int .i64 z0) := by rw [Bx0_t184.cell]; rfl
        have qBx01 : w77.cell? ⟨w24.heap.size, 1, none⟩ = some (.slice (some ⟨gX0, 0, none⟩) l0.length l0.length) := by rw [Bx0_t184.cell]; rfl
        have qBx10 : w77.cell? ⟨w25.heap.size, 0, none⟩ = some (.int .i64 z1) := by rw [Bx1_t184.cell]; rfl
        have qBx11 : w77.cell? ⟨w25.heap.size, 1, none⟩ = some (.slice (some ⟨gX1, 0, none⟩) l1.length l1.length) := by rw [Bx1_t184.cell]; rfl
        have qBg0 : w77.cell? ⟨gG, 0, none⟩ = some (.int .i64 vz0) := by rw [Bg_t184.cell]; rfl
        have qBg1 : w77.cell? ⟨gG, 1, none⟩ = some (.slice bG nG cG) := by rw [Bg_t184.cell]; rfl
        have qBh0 : w77.cell? ⟨gHh, 0, none⟩ = some (.int .i64 vz0) := by rw [Bh_t184.cell]; rfl
        have qBh1 : w77.cell? ⟨gHh, 1, none⟩ = some (.slice bHh nHh cHh) := by rw [Bh_t184.cell]; rfl
        go_wp2
        go_ret
        exact ⟨rfl, hw_t184⟩

set_option maxRecDepth 100000 in
theorem lifted (os : Os) (started : os.Started) (H : Type) (enc : TypeId × Value → H) :
    ReturnsInHanded {} Tryz.checked os 4 .any (Rows.fnExactWorkPutSpec.pre6 enc Tryz.prog Tryz.f4 Rows.fnExactWorkPutRow.domain false) (Rows.fnExactWorkPutSpec.post enc Tryz.prog Tryz.f4 false true false false) := by
  refine returnsInHanded_of_change (C := Tryz.checked) Whole.own started (by kernel_rfl) Tryz.func4
    (ChangeSpec.witness6 (enc := enc) (C := Tryz.checked) false ⟨#[], #[.agg #[.int .i64 0, .slice none 0 0], .agg #[.int .i64 0, .slice none 0 0], .agg #[.string ByteArray.empty, .int .i64 0, .bool false]], []⟩ 8 (by kernel_rfl) (by kernel_rfl) (by kernel_rfl) (by kernel_rfl)) ?_
  intro W base args ds gs before hval0 hW hcnd _
  have hval : ∀ (j : Nat) t v, Tryz.f4.params[j]? = some t → args[j]? = some v → Value.okWide Tryz.prog W .any base t v := hval0
  have hW' := hW
  obtain ⟨p, q, hA0, hV, rfl, hfz, hnd⟩ := hW
  have hA : DataW.TrodAll enc Tryz.prog W 0 (fun _ => true) true Tryz.f4.params.toList args.toList ds p := hA0
  rw [Tryz.params4] at hA hval
  obtain ⟨v0, vs0, d0, ds0, p0, q0, hargs, rfl, rfl, h0, r0⟩ := trodAll_cons hA
  obtain ⟨v1, vs1, d1, ds1, p1, q1, rfl, rfl, rfl, h1, r1⟩ := trodAll_cons r0
  obtain ⟨v2, vs2, d2, ds2, p2, q2, rfl, rfl, rfl, h2, r2⟩ := trodAll_cons r1
  obtain ⟨rfl, rfl, rfl⟩ := trodAll_nil r2
  obtain rfl : args = #[v0, v1, v2] := by cases args; simp_all
  obtain ⟨rfl, rfl⟩ := trodVars_none hV
  have k0 := h0
  have lt0 : ∀ x ∈ p0, x.block < W.heap.size := by obtain ⟨m, hm⟩ := k0; exact DataW.trod_lt m _ _ _ hm
  obtain ⟨z0, A0, c0, l0, rfl, hz0, hc0, hm0, hf0, hr0⟩ := openArgVers (hval 0 24 v0 rfl rfl) h0
  have k1 := h1
  have lt1 : ∀ x ∈ p1, x.block < W.heap.size := by obtain ⟨m, hm⟩ := k1; exact DataW.trod_lt m _ _ _ hm
  obtain ⟨z1, A1, c1, l1, rfl, hz1, hc1, hm1, hf1, hr1⟩ := openArgWork (hval 1 27 v1 rfl rfl) h1
  have k2 := h2
  have lt2 : ∀ x ∈ p2, x.block < W.heap.size := by obtain ⟨m, hm⟩ := k2; exact DataW.trod_lt m _ _ _ hm
  obtain ⟨x2, rfl, hf2⟩ := openArgWrite1 (hval 2 48 v2 rfl rfl) h2
  clear hA0 hval0
  refine (walk z0 A0 c0 l0 z1 A1 c1 l1 x2 W hz0 hc0 hm0 hf0 hr0 hz1 hc1 hm1 hf1 hr1 hf2).mono fun e W' ⟨he, bel⟩ => ?_
  subst he
  exact ⟨_, rfl, _, _, _, [], _, [], hW', trodAll_mk1 (shut_bool Tryz.underlying4 _), (trodAll_cons_mk (Below.trod Whole.laidOut (by kernel_rfl) (of_decide_eq_true (by kernel_rfl)) k0 bel lt0) (trodAll_cons_mk (Below.trod Whole.laidOut (by kernel_rfl) (of_decide_eq_true (by kernel_rfl)) k1 bel lt1) (trodAll_cons_mk (Below.trod Whole.laidOut (by kernel_rfl) (of_decide_eq_true (by kernel_rfl)) k2 bel lt2) trodAll_mk0))), rfl, bel.frame _, fun h => by cases h⟩

theorem named : Tryz.prog.funcNamed Rows.fnExactWorkPutRow.func = some 4 := by kernel_rfl
theorem closed : Whole.lawFacts Tryz.prog 4 Tryz.f4 Rows.fnExactWorkPutSpec Rows.fnExactWorkPutRow = true := by kernel_rfl
theorem inst : Tryz.f4.isInstance Tryz.prog Rows.fnExactWorkPutRow.origin Rows.fnExactWorkPutRow.targs := of_decide_eq_true (by kernel_rfl)
theorem wrap : Tryz.f4.isWrapper Tryz.prog Rows.fnExactWorkPutRow.wrapper Rows.fnExactWorkPutRow.mainSum := by
  unfold Func.isWrapper; first | (rw [if_pos (by decide +kernel)]; kernel_rfl) | (rw [if_neg (by decide +kernel)]; exact ⟨rfl, rfl⟩)
theorem over : Rows.fnExactWorkPutRow.holds Tryz.pinned (OpenSpec.ofChange Rows.fnExactWorkPutSpec) :=
  OpenClaim.holds_of_wide 4 Tryz.f4 rfl rfl rfl rfl rfl rfl rfl ⟨rfl, rfl, rfl, rfl, rfl⟩ rfl rfl rfl rfl rfl named Tryz.func4 (Whole.facts_of closed)
    inst wrap (fun os started H enc _ => lifted os started H enc)

theorem proved : Rows.FnExactWorkPutSaid := over
#print axioms proved
end Go.Proofs.YtbeklnhngjmpiaaGreat.fnExactWorkPut
