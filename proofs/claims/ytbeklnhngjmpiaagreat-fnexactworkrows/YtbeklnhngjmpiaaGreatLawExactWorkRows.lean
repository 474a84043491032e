/- For all histories and transactions of the law's own types that the law takes (a bounded size), WorkRows of the program answers as the specification's WorkRows, leaves its arguments as they were, answers alike a second time, and its answer owns its memory. No conditions. -/
import Derived.Test.YtbeklnhngjmpiaaGreatRows
import Derived.Test.YtbeklnhngjmpiaaGreatWhole
import Derived.Test.YtbeklnhngjmpiaaGreatA6
import Derived.Test.YtbeklnhngjmpiaaGreatArWork
import Derived.Test.YtbeklnhngjmpiaaGreatX3f
import Derived.WalkKit
import Derived.ProofKit
import Derived.OpenShut
import Derived.ShutString
import Derived.ChangeOld
import Derived.Below
namespace Go.Proofs.YtbeklnhngjmpiaaGreat.fnExactWorkRows
open Go.ChangeShapes Go.WideShapes Go.ChangeAt Go.RowKit
open Go.ChangeMaps (open_string shut_string)
set_option linter.unusedVariables false

set_option maxRecDepth 100000 in
set_option maxHeartbeats 1000000 in
theorem walk (z0 : Int) (A0 : Option Addr) (c0 : Nat) (l0 : List V) (z1 : Int) (A1 : Option Addr) (c1 : Nat) (l1 : List X) (w : World) (hz0 : FitI z0) (hc0 : l0.length ≤ c0) (hm0 : c0 ≤ maxLen) (hf0 : FitVs l0) (hr0 : RdG w w.heap.size A0 l0) (hz1 : FitI z1) (hc1 : l1.length ≤ c1) (hm1 : c1 ≤ maxLen) (hf1 : FitXs l1) (hr1 : RdG w w.heap.size A1 l1) :
    Calls Tryz.prog 3 #[.agg #[.int .i64 z0, .slice A0 l0.length c0], .agg #[.int .i64 z1, .slice A1 l1.length c1]] w fun e w' => e = .returned (.bool true) ∧ Below w.heap.size w w' := by
  have htl0 := totalV_len l0
  by_cases ht0 : (totalV l0 : Int) ≤ 1048576
  rotate_left
  · have H0 := Lib.hid (szR_neg (left := 1048576) (k := totalV l0) (by omega))
    go_enter Tryz.func3, Tryz.ntmps3
    have hb_t1 := below_alloc (Below.refl _ w) (.cells #[.int .i64 z0, .slice A0 l0.length c0] 24)
    have B0_t1 := blkA w #[.int .i64 z0, .slice A0 l0.length c0] 24
    have hz_t1 : (w.alloc (.cells #[.int .i64 z0, .slice A0 l0.length c0] 24)).heap.size = w.heap.size + 1 := World.size_alloc _ _
    have hw_t2 := hb_t1
    have hs_t2 := hb_t1.size
    have hb_t3 := below_alloc (Below.refl _ (w.alloc (.cells #[.int .i64 z0, .slice A0 l0.length c0] 24))) (.cells #[.int .i64 z1, .slice A1 l1.length c1] 27)
    have B1_t3 := blkA (w.alloc (.cells #[.int .i64 z0, .slice A0 l0.length c0] 24)) #[.int .i64 z1, .slice A1 l1.length c1] 27
    simp only [World.size_alloc] at B1_t3
    have hz_t3 : ((w.alloc (.cells #[.int .i64 z0, .slice A0 l0.length c0] 24)).alloc (.cells #[.int .i64 z1, .slice A1 l1.length c1] 27)).heap.size = (w.alloc (.cells #[.int .i64 z0, .slice A0 l0.length c0] 24)).heap.size + 1 := World.size_alloc _ _
    have B0_t4 := B0_t1.next hb_t3
    clear B0_t1
    have hw_t4 := below_next hw_t2 hb_t3
    have hs_t4 := hb_t3.size
    have qB00 : ((w.alloc (.cells #[.int .i64 z0, .slice A0 l0.length c0] 24)).alloc (.cells #[.int .i64 z1, .slice A1 l1.length c1] 27)).cell? ⟨w.heap.size, 0, none⟩ = some (.int .i64 z0) := by rw [B0_t4.cell]; rfl
    have qB01 : ((w.alloc (.cells #[.int .i64 z0, .slice A0 l0.length c0] 24)).alloc (.cells #[.int .i64 z1, .slice A1 l1.length c1] 27)).cell? ⟨w.heap.size, 1, none⟩ = some (.slice A0 l0.length c0) := by rw [B0_t4.cell]; rfl
    have qB10 : ((w.alloc (.cells #[.int .i64 z0, .slice A0 l0.length c0] 24)).alloc (.cells #[.int .i64 z1, .slice A1 l1.length c1] 27)).cell? ⟨w.heap.size + 1, 0, none⟩ = some (.int .i64 z1) := by rw [B1_t3.cell]; rfl
    have qB11 : ((w.alloc (.cells #[.int .i64 z0, .slice A0 l0.length c0] 24)).alloc (.cells #[.int .i64 z1, .slice A1 l1.length c1] 27)).cell? ⟨w.heap.size + 1, 1, none⟩ = some (.slice A1 l1.length c1) := by rw [B1_t3.cell]; rfl
    go_wp2_with fail
    clear qB00 qB01 qB10 qB11
    refine (szVers_c z0 A0 c0 l0 1048576 _ hf0 hc0 hm0 (by omega) (by omega) ((hr0.below hw_t4).more hw_t4.size)).mono ?_
    rintro e w1 ⟨rfl, hb1⟩
    rw [H0.out]
    have B0_t5 := B0_t4.next hb1
    clear B0_t4
    have B1_t5 := B1_t3.next hb1
    clear B1_t3
    have hw_t5 := below_next hw_t4 hb1
    have hs_t5 := hb1.size
    go_wp2
    go_ret
    exact ⟨rfl, hw_t5⟩
  obtain ⟨L0, H0, hL0, hL0x⟩ : ∃ L : Int, Hid (szR 1048576 (totalV l0) = L) ∧ 0 ≤ L ∧ L ≤ 1048576 := ⟨_, Lib.hid rfl, by rw [szR_pos ht0]; omega, by rw [szR_pos ht0]; omega⟩
  have hlen0 : l0.length ≤ 1048576 := by omega
  clear ht0 htl0
  have htl1 := totalX_len l1
  by_cases ht1 : (totalX l1 : Int) ≤ L0
  rotate_left
  · have H1 := Lib.hid (szR_neg (left := L0) (k := totalX l1) (by omega))
    go_enter Tryz.func3, Tryz.ntmps3
    have hb_t1 := below_alloc (Below.refl _ w) (.cells #[.int .i64 z0, .slice A0 l0.length c0] 24)
    have B0_t1 := blkA w #[.int .i64 z0, .slice A0 l0.length c0] 24
    have hz_t1 : (w.alloc (.cells #[.int .i64 z0, .slice A0 l0.length c0] 24)).heap.size = w.heap.size + 1 := World.size_alloc _ _
    have hw_t2 := hb_t1
    have hs_t2 := hb_t1.size
    have hb_t3 := below_alloc (Below.refl _ (w.alloc (.cells #[.int .i64 z0, .slice A0 l0.length c0] 24))) (.cells #[.int .i64 z1, .slice A1 l1.length c1] 27)
    have B1_t3 := blkA (w.alloc (.cells #[.int .i64 z0, .slice A0 l0.length c0] 24)) #[.int .i64 z1, .slice A1 l1.length c1] 27
    simp only [World.size_alloc] at B1_t3
    have hz_t3 : ((w.alloc (.cells #[.int .i64 z0, .slice A0 l0.length c0] 24)).alloc (.cells #[.int .i64 z1, .slice A1 l1.length c1] 27)).heap.size = (w.alloc (.cells #[.int .i64 z0, .slice A0 l0.length c0] 24)).heap.size + 1 := World.size_alloc _ _
    have B0_t4 := B0_t1.next hb_t3
    clear B0_t1
    have hw_t4 := below_next hw_t2 hb_t3
    have hs_t4 := hb_t3.size
    have qB00 : ((w.alloc (.cells #[.int .i64 z0, .slice A0 l0.length c0] 24)).alloc (.cells #[.int .i64 z1, .slice A1 l1.length c1] 27)).cell? ⟨w.heap.size, 0, none⟩ = some (.int .i64 z0) := by rw [B0_t4.cell]; rfl
    have qB01 : ((w.alloc (.cells #[.int .i64 z0, .slice A0 l0.length c0] 24)).alloc (.cells #[.int .i64 z1, .slice A1 l1.length c1] 27)).cell? ⟨w.heap.size, 1, none⟩ = some (.slice A0 l0.length c0) := by rw [B0_t4.cell]; rfl
    have qB10 : ((w.alloc (.cells #[.int .i64 z0, .slice A0 l0.length c0] 24)).alloc (.cells #[.int .i64 z1, .slice A1 l1.length c1] 27)).cell? ⟨w.heap.size + 1, 0, none⟩ = some (.int .i64 z1) := by rw [B1_t3.cell]; rfl
    have qB11 : ((w.alloc (.cells #[.int .i64 z0, .slice A0 l0.length c0] 24)).alloc (.cells #[.int .i64 z1, .slice A1 l1.length c1] 27)).cell? ⟨w.heap.size + 1, 1, none⟩ = some (.slice A1 l1.length c1) := by rw [B1_t3.cell]; rfl
    go_wp2_with fail
    clear qB00 qB01 qB10 qB11
    refine (szVers_c z0 A0 c0 l0 1048576 _ hf0 hc0 hm0 (by omega) (by omega) ((hr0.below hw_t4).more hw_t4.size)).mono ?_
    rintro e w1 ⟨rfl, hb1⟩
    rw [H0.out]
    have B0_t5 := B0_t4.next hb1
    clear B0_t4
    have B1_t5 := B1_t3.next hb1
    clear B1_t3
    have hw_t5 := below_next hw_t4 hb1
    have hs_t5 := hb1.size
    have qB00 : w1.cell? ⟨w.heap.size, 0, none⟩ = some (.int .i64 z0) := by rw [B0_t5.cell]; rfl
    have qB01 : w1.cell? ⟨w.heap.size, 1, none⟩ = some (.slice A0 l0.length c0) := by rw [B0_t5.cell]; rfl
    have qB10 : w1.cell? ⟨w.heap.size + 1, 0, none⟩ = some (.int .i64 z1) := by rw [B1_t5.cell]; rfl
    have qB11 : w1.cell? ⟨w.heap.size + 1, 1, none⟩ = some (.slice A1 l1.length c1) := by rw [B1_t5.cell]; rfl
    go_wp2_with fail
    clear qB00 qB01 qB10 qB11
    refine (szWork_c z1 A1 c1 l1 L0 _ hf1 hc1 hm1 (by omega) (by omega) ((hr1.below hw_t5).more hw_t5.size)).mono ?_
    rintro e w2 ⟨rfl, hb2⟩
    rw [H1.out]
    have B0_t6 := B0_t5.next hb2
    clear B0_t5
    have B1_t6 := B1_t5.next hb2
    clear B1_t5
    have hw_t6 := below_next hw_t5 hb2
    have hs_t6 := hb2.size
    go_wp2
    go_ret
    exact ⟨rfl, hw_t6⟩
  obtain ⟨L1, H1, hL1, hL1x⟩ : ∃ L : Int, Hid (szR L0 (totalX l1) = L) ∧ 0 ≤ L ∧ L ≤ 1048576 := ⟨_, Lib.hid rfl, by rw [szR_pos ht1]; omega, by rw [szR_pos ht1]; omega⟩
  have hlen1 : l1.length ≤ 1048576 := by omega
  clear ht1 htl1
  have hvl0 : (workRows z0 l0 z1 l1).length ≤ 1048577 := by have := workRows_length z0 l0 z1 l1; omega
  obtain ⟨vl0, HV0⟩ : ∃ x, Hid (workRows z0 l0 z1 l1 = x) := ⟨_, Lib.hid rfl⟩
  rw [HV0.out] at hvl0
  have HE0 := Lib.hid (eqL_yes (rfl : vl0 = vl0))
  have HA0 := Lib.hid (sameB_refl z0 l0)
  have HA1 := Lib.hid (sameW_refl z1 l1)
  go_enter Tryz.func3, Tryz.ntmps3
  have hb_t1 := below_alloc (Below.refl _ w) (.cells #[.int .i64 z0, .slice A0 l0.length c0] 24)
  have B0_t1 := blkA w #[.int .i64 z0, .slice A0 l0.length c0] 24
  have hz_t1 : (w.alloc (.cells #[.int .i64 z0, .slice A0 l0.length c0] 24)).heap.size = w.heap.size + 1 := World.size_alloc _ _
  have hw_t2 := hb_t1
  have hs_t2 := hb_t1.size
  have hb_t3 := below_alloc (Below.refl _ (w.alloc (.cells #[.int .i64 z0, .slice A0 l0.length c0] 24))) (.cells #[.int .i64 z1, .slice A1 l1.length c1] 27)
  have B1_t3 := blkA (w.alloc (.cells #[.int .i64 z0, .slice A0 l0.length c0] 24)) #[.int .i64 z1, .slice A1 l1.length c1] 27
  simp only [World.size_alloc] at B1_t3
  have hz_t3 : ((w.alloc (.cells #[.int .i64 z0, .slice A0 l0.length c0] 24)).alloc (.cells #[.int .i64 z1, .slice A1 l1.length c1] 27)).heap.size = (w.alloc (.cells #[.int .i64 z0, .slice A0 l0.length c0] 24)).heap.size + 1 := World.size_alloc _ _
  have B0_t4 := B0_t1.next hb_t3
  clear B0_t1
  have hw_t4 := below_next hw_t2 hb_t3
  have hs_t4 := hb_t3.size
  have qB00 : ((w.alloc (.cells #[.int .i64 z0, .slice A0 l0.length c0] 24)).alloc (.cells #[.int .i64 z1, .slice A1 l1.length c1] 27)).cell? ⟨w.heap.size, 0, none⟩ = some (.int .i64 z0) := by rw [B0_t4.cell]; rfl
  have qB01 : ((w.alloc (.cells #[.int .i64 z0, .slice A0 l0.length c0] 24)).alloc (.cells #[.int .i64 z1, .slice A1 l1.length c1] 27)).cell? ⟨w.heap.size, 1, none⟩ = some (.slice A0 l0.length c0) := by rw [B0_t4.cell]; rfl
  have qB10 : ((w.alloc (.cells #[.int .i64 z0, .slice A0 l0.length c0] 24)).alloc (.cells #[.int .i64 z1, .slice A1 l1.length c1] 27)).cell? ⟨w.heap.size + 1, 0, none⟩ = some (.int .i64 z1) := by rw [B1_t3.cell]; rfl
  have qB11 : ((w.alloc (.cells #[.int .i64 z0, .slice A0 l0.length c0] 24)).alloc (.cells #[.int .i64 z1, .slice A1 l1.length c1] 27)).cell? ⟨w.heap.size + 1, 1, none⟩ = some (.slice A1 l1.length c1) := by rw [B1_t3.cell]; rfl
  go_wp2_with fail
  clear qB00 qB01 qB10 qB11
  refine (szVers_c z0 A0 c0 l0 1048576 _ hf0 hc0 hm0 (by omega) (by omega) ((hr0.below hw_t4).more hw_t4.size)).mono ?_
  rintro e w1 ⟨rfl, hb1⟩
  rw [H0.out]
  have B0_t5 := B0_t4.next hb1
  clear B0_t4
  have B1_t5 := B1_t3.next hb1
  clear B1_t3
  have hw_t5 := below_next hw_t4 hb1
  have hs_t5 := hb1.size
  have qB00 : w1.cell? ⟨w.heap.size, 0, none⟩ = some (.int .i64 z0) := by rw [B0_t5.cell]; rfl
  have qB01 : w1.cell? ⟨w.heap.size, 1, none⟩ = some (.slice A0 l0.length c0) := by rw [B0_t5.cell]; rfl
  have qB10 : w1.cell? ⟨w.heap.size + 1, 0, none⟩ = some (.int .i64 z1) := by rw [B1_t5.cell]; rfl
  have qB11 : w1.cell? ⟨w.heap.size + 1, 1, none⟩ = some (.slice A1 l1.length c1) := by rw [B1_t5.cell]; rfl
  go_wp2_with fail
  clear qB00 qB01 qB10 qB11
  refine (szWork_c z1 A1 c1 l1 L0 _ hf1 hc1 hm1 (by omega) (by omega) ((hr1.below hw_t5).more hw_t5.size)).mono ?_
  rintro e w2 ⟨rfl, hb2⟩
  rw [H1.out]
  have B0_t6 := B0_t5.next hb2
  clear B0_t5
  have B1_t6 := B1_t5.next hb2
  clear B1_t5
  have hw_t6 := below_next hw_t5 hb2
  have hs_t6 := hb2.size
  have qB00 : w2.cell? ⟨w.heap.size, 0, none⟩ = some (.int .i64 z0) := by rw [B0_t6.cell]; rfl
  have qB01 : w2.cell? ⟨w.heap.size, 1, none⟩ = some (.slice A0 l0.length c0) := by rw [B0_t6.cell]; rfl
  have qB10 : w2.cell? ⟨w.heap.size + 1, 0, none⟩ = some (.int .i64 z1) := by rw [B1_t6.cell]; rfl
  have qB11 : w2.cell? ⟨w.heap.size + 1, 1, none⟩ = some (.slice A1 l1.length c1) := by rw [B1_t6.cell]; rfl
  go_wp2
  clear qB00 qB01 qB10 qB11
  have hb_t7 : Below w2.heap.size w2 w2.drew := (Below.refl _ _).drew
  have B0_t8 := B0_t6.next hb_t7
  clear B0_t6
  have B1_t8 := B1_t6.next hb_t7
  clear B1_t6
  have hw_t8 := below_next hw_t6 hb_t7
  have hs_t8 := hb_t7.size
  refine wp_region_held_drew (S := (fun W => W.cell? ⟨w.heap.size, 0, none⟩ = some (.int .i64 z0) ∧ W.cell? ⟨w.heap.size, 1, none⟩ = some (.slice A0 l0.length c0) ∧ W.cell? ⟨w.heap.size + 1, 0, none⟩ = some (.int .i64 z1) ∧ W.cell? ⟨w.heap.size + 1, 1, none⟩ = some (.slice A1 l1.length c1))) (by kernel_rfl) ?_ (fun hHeld => ?_)
  focus ((try dsimp only); (exact ⟨by rw [B0_t8.cell]; rfl, by rw [B0_t8.cell]; rfl, by rw [B1_t8.cell]; rfl, by rw [B1_t8.cell]; rfl⟩))
  (refine tk 0 ?_; try simp only [Act.put, pa, pb, pc])
  (refine tk 2 ?_; try simp only [Act.put, pa, pb, pc])
  (refine rd1 1 (fun K hK => ?_); go_simp; (go_at_call 19; refine (toVers_c z0 A0 c0 l0 _ hc0 hlen0 ((hr0.below hw_t8).more hw_t8.size)).mono ?_; rintro e w3 ⟨gY0, rfl, Y0_n, ge_Y00, lt_Y00, hb3⟩; have B0_t9 := B0_t8.next hb3; clear B0_t8; have B1_t9 := B1_t8.next hb3; clear B1_t8; have hw_t9 := below_next hw_t8 hb3; have hs_t9 := hb3.size; have ge_Y0 : ∀ g, (Value.slice (some ⟨gY0, 0, none⟩) l0.length l0.length).ownBlock = some g → (w2.drew).heap.size ≤ g := fun g hg => (by have : gY0 = g := Option.some.inj hg; omega); have lt_Y0 : ∀ g, (Value.slice (some ⟨gY0, 0, none⟩) l0.length l0.length).ownBlock = some g → g < w3.heap.size := fun g hg => (by have : gY0 = g := Option.some.inj hg; omega); clear ge_Y00 lt_Y00); go_wp2_with fail; refine hK.out _ _ ?_ (fun hHeld => ?_); (focus ((try dsimp only); (exact ⟨by rw [B0_t9.cell]; rfl, by rw [B0_t9.cell]; rfl, by rw [B1_t9.cell]; rfl, by rw [B1_t9.cell]; rfl⟩))); clear hK K; (try simp only [Act.put, pa, pb, pc]))
  (refine rd1 3 (fun K hK => ?_); go_simp; (go_at_call 20; refine (toWork_c z1 A1 c1 l1 _ hc1 hlen1 ((hr1.below hw_t9).more hw_t9.size)).mono ?_; rintro e w4 ⟨gY1, rfl, Y1_n, ge_Y10, lt_Y10, hb4⟩; have Y0_t10 := Y0_n.next hb4; clear Y0_n; have B0_t10 := B0_t9.next hb4; clear B0_t9; have B1_t10 := B1_t9.next hb4; clear B1_t9; have hw_t10 := below_next hw_t9 hb4; have hs_t10 := hb4.size; have ge_Y1 : ∀ g, (Value.slice (some ⟨gY1, 0, none⟩) l1.length l1.length).ownBlock = some g → (w3).heap.size ≤ g := fun g hg => (by have : gY1 = g := Option.some.inj hg; omega); have lt_Y1 : ∀ g, (Value.slice (some ⟨gY1, 0, none⟩) l1.length l1.length).ownBlock = some g → g < w4.heap.size := fun g hg => (by have : gY1 = g := Option.some.inj hg; omega); clear ge_Y10 lt_Y10); go_wp2_with fail; refine hK.out _ _ ?_ (fun hHeld => ?_); (focus ((try dsimp only); (exact ⟨by rw [B0_t10.cell]; rfl, by rw [B0_t10.cell]; rfl, by rw [B1_t10.cell]; rfl, by rw [B1_t10.cell]; rfl⟩))); clear hK K; (try simp only [Act.put, pa, pb, pc]))
  (refine rd1 4 (fun K hK => ?_); go_simp; (go_at_call 18; refine (specWorkRowsO Y0_t10 Y1_n hf0 hf1 hlen0 hlen1).mono ?_; rw [HV0.out]; rintro e w5 ⟨VW, rfl, W_n, hb5⟩; have Y0_t11 := Y0_t10.next hb5; clear Y0_t10; have Y1_t11 := Y1_n.next hb5; clear Y1_n; have B0_t11 := B0_t10.next hb5; clear B0_t10; have B1_t11 := B1_t10.next hb5; clear B1_t10; have hw_t11 := below_next hw_t10 hb5; have hs_t11 := hb5.size; have ge_W : ∀ g, VW.ownBlock = some g → (w4).heap.size ≤ g := fun g hg => (W_n.block_lt hg).1; have lt_W : ∀ g, VW.ownBlock = some g → g < w5.heap.size := fun g hg => (W_n.block_lt hg).2); go_wp2_with fail; refine hK.out _ _ ?_ (fun hHeld => ?_); (focus ((try dsimp only); (exact ⟨by rw [B0_t11.cell]; rfl, by rw [B0_t11.cell]; rfl, by rw [B1_t11.cell]; rfl, by rw [B1_t11.cell]; rfl⟩))); clear hK K; (try simp only [Act.put, pa, pb, pc]))
  (refine tk 5 ?_; try simp only [Act.put, pa, pb, pc])
  refine wpAnyH_done (by kernel_rfl) ?_ _
  clear Y0_t11
  clear Y1_t11
  have qB00 : w5.cell? ⟨w.heap.size, 0, none⟩ = some (.int .i64 z0) := by rw [B0_t11.cell]; rfl
  have qB01 : w5.cell? ⟨w.heap.size, 1, none⟩ = some (.slice A0 l0.length c0) := by rw [B0_t11.cell]; rfl
  have qB10 : w5.cell? ⟨w.heap.size + 1, 0, none⟩ = some (.int .i64 z1) := by rw [B1_t11.cell]; rfl
  have qB11 : w5.cell? ⟨w.heap.size + 1, 1, none⟩ = some (.slice A1 l1.length c1) := by rw [B1_t11.cell]; rfl
  go_wp2_with fail
  clear qB00 qB01 qB10 qB11
  refine (toVers_c z0 A0 c0 l0 _ hc0 hlen0 ((hr0.below hw_t11).more hw_t11.size)).mono ?_
  rintro e w6 ⟨gX0, rfl, X0_n, ge_X00, lt_X00, hb6⟩
  have W_t12 := W_n.next hb6
  clear W_n
  have B0_t12 := B0_t11.next hb6
  clear B0_t11
  have B1_t12 := B1_t11.next hb6
  clear B1_t11
  have hw_t12 := below_next hw_t11 hb6
  have hs_t12 := hb6.size
  have ge_X0 : ∀ g, (Value.slice (some ⟨gX0, 0, none⟩) l0.length l0.length).ownBlock = some g → (w5).heap.size ≤ g := fun g hg => (by have : gX0 = g := Option.some.inj hg; omega)
  have lt_X0 : ∀ g, (Value.slice (some ⟨gX0, 0, none⟩) l0.length l0.length).ownBlock = some g → g < w6.heap.size := fun g hg => (by have : gX0 = g := Option.some.inj hg; omega)
  clear ge_X00 lt_X00
  have hb_t13 := below_alloc (Below.refl _ w6) (.cells #[.int .i64 z0, .slice (some ⟨gX0, 0, none⟩) l0.length l0.length] 34)
  have Bx0_t13 := blkA w6 #[.int .i64 z0, .slice (some ⟨gX0, 0, none⟩) l0.length l0.length] 34
  have hz_t13 : (w6.alloc (.cells #[.int .i64 z0, .slice (some ⟨gX0, 0, none⟩) l0.length l0.length] 34)).heap.size = w6.heap.size + 1 := World.size_alloc _ _
  have W_t14 := W_t12.next hb_t13
  clear W_t12
  have X0_t14 := X0_n.next hb_t13
  clear X0_n
  have B0_t14 := B0_t12.next hb_t13
  clear B0_t12
  have B1_t14 := B1_t12.next hb_t13
  clear B1_t12
  have hw_t14 := below_next hw_t12 hb_t13
  have hs_t14 := hb_t13.size
  have qB00 : (w6.alloc (.cells #[.int .i64 z0, .slice (some ⟨gX0, 0, none⟩) l0.length l0.length] 34)).cell? ⟨w.heap.size, 0, none⟩ = some (.int .i64 z0) := by rw [B0_t14.cell]; rfl
  have qB01 : (w6.alloc (.cells #[.int .i64 z0, .slice (some ⟨gX0, 0, none⟩) l0.length l0.length] 34)).cell? ⟨w.heap.size, 1, none⟩ = some (.slice A0 l0.length c0) := by rw [B0_t14.cell]; rfl
  have qB10 : (w6.alloc (.cells #[.int .i64 z0, .slice (some ⟨gX0, 0, none⟩) l0.length l0.length] 34)).cell? ⟨w.heap.size + 1, 0, none⟩ = some (.int .i64 z1) := by rw [B1_t14.cell]; rfl
  have qB11 : (w6.alloc (.cells #[.int .i64 z0, .slice (some ⟨gX0, 0, none⟩) l0.length l0.length] 34)).cell? ⟨w.heap.size + 1, 1, none⟩ = some (.slice A1 l1.length c1) := by rw [B1_t14.cell]; rfl
  have qBx00 : (w6.alloc (.cells #[.int .i64 z0, .slice (some ⟨gX0, 0, none⟩) l0.length l0.length] 34)).cell? ⟨w6.heap.size, 0, none⟩ = some (.int .i64 z0) := by rw [Bx0_t13.cell]; rfl
  have qBx01 : (w6.alloc (.cells #[.int .i64 z0, .slice (some ⟨gX0, 0, none⟩) l0.length l0.length] 34)).cell? ⟨w6.heap.size, 1, none⟩ = some (.slice (some ⟨gX0, 0, none⟩) l0.length l0.length) := by rw [Bx0_t13.cell]; rfl
  go_wp2_with fail
  clear qB00 qB01 qB10 qB11 qBx00 qBx01
  refine (toWork_c z1 A1 c1 l1 _ hc1 hlen1 ((hr1.below hw_t14).more hw_t14.size)).mono ?_
  rintro e w7 ⟨gX1, rfl, X1_n, ge_X10, lt_X10, hb7⟩
  have W_t15 := W_t14.next hb7
  clear W_t14
  have X0_t15 := X0_t14.next hb7
  clear X0_t14
  have B0_t15 := B0_t14.next hb7
  clear B0_t14
  have B1_t15 := B1_t14.next hb7
  clear B1_t14
  have Bx0_t15 := Bx0_t13.next hb7
  clear Bx0_t13
  have hw_t15 := below_next hw_t14 hb7
  have hs_t15 := hb7.size
  have ge_X1 : ∀ g, (Value.slice (some ⟨gX1, 0, none⟩) l1.length l1.length).ownBlock = some g → ((w6.alloc (.cells #[.int .i64 z0, .slice (some ⟨gX0, 0, none⟩) l0.length l0.length] 34))).heap.size ≤ g := fun g hg => (by have : gX1 = g := Option.some.inj hg; omega)
  have lt_X1 : ∀ g, (Value.slice (some ⟨gX1, 0, none⟩) l1.length l1.length).ownBlock = some g → g < w7.heap.size := fun g hg => (by have : gX1 = g := Option.some.inj hg; omega)
  clear ge_X10 lt_X10
  have hb_t16 := below_alloc (Below.refl _ w7) (.cells #[.int .i64 z1, .slice (some ⟨gX1, 0, none⟩) l1.length l1.length] 38)
  have Bx1_t16 := blkA w7 #[.int .i64 z1, .slice (some ⟨gX1, 0, none⟩) l1.length l1.length] 38
  have hz_t16 : (w7.alloc (.cells #[.int .i64 z1, .slice (some ⟨gX1, 0, none⟩) l1.length l1.length] 38)).heap.size = w7.heap.size + 1 := World.size_alloc _ _
  have W_t17 := W_t15.next hb_t16
  clear W_t15
  have X0_t17 := X0_t15.next hb_t16
  clear X0_t15
  have X1_t17 := X1_n.next hb_t16
  clear X1_n
  have B0_t17 := B0_t15.next hb_t16
  clear B0_t15
  have B1_t17 := B1_t15.next hb_t16
  clear B1_t15
  have Bx0_t17 := Bx0_t15.next hb_t16
  clear Bx0_t15
  have hw_t17 := below_next hw_t15 hb_t16
  have hs_t17 := hb_t16.size
  have qB00 : (w7.alloc (.cells #[.int .i64 z1, .slice (some ⟨gX1, 0, none⟩) l1.length l1.length] 38)).cell? ⟨w.heap.size, 0, none⟩ = some (.int .i64 z0) := by rw [B0_t17.cell]; rfl
  have qB01 : (w7.alloc (.cells #[.int .i64 z1, .slice (some ⟨gX1, 0, none⟩) l1.length l1.length] 38)).cell? ⟨w.heap.size, 1, none⟩ = some (.slice A0 l0.length c0) := by rw [B0_t17.cell]; rfl
  have qB10 : (w7.alloc (.cells #[.int .i64 z1, .slice (some ⟨gX1, 0, none⟩) l1.length l1.length] 38)).cell? ⟨w.heap.size + 1, 0, none⟩ = some (.int .i64 z1) := by rw [B1_t17.cell]; rfl
  have qB11 : (w7.alloc (.cells #[.int .i64 z1, .slice (some ⟨gX1, 0, none⟩) l1.length l1.length] 38)).cell? ⟨w.heap.size + 1, 1, none⟩ = some (.slice A1 l1.length c1) := by rw [B1_t17.cell]; rfl
  have qBx00 : (w7.alloc (.cells #[.int .i64 z1, .slice (some ⟨gX1, 0, none⟩) l1.length l1.length] 38)).cell? ⟨w6.heap.size, 0, none⟩ = some (.int .i64 z0) := by rw [Bx0_t17.cell]; rfl
  have qBx01 : (w7.alloc (.cells #[.int .i64 z1, .slice (some ⟨gX1, 0, none⟩) l1.length l1.length] 38)).cell? ⟨w6.heap.size, 1, none⟩ = some (.slice (some ⟨gX0, 0, none⟩) l0.length l0.length) := by rw [Bx0_t17.cell]; rfl
  have qBx10 : (w7.alloc (.cells #[.int .i64 z1, .slice (some ⟨gX1, 0, none⟩) l1.length l1.length] 38)).cell? ⟨w7.heap.size, 0, none⟩ = some (.int .i64 z1) := by rw [Bx1_t16.cell]; rfl
  have qBx11 : (w7.alloc (.cells #[.int .i64 z1, .slice (some ⟨gX1, 0, none⟩) l1.length l1.length] 38)).cell? ⟨w7.heap.size, 1, none⟩ = some (.slice (some ⟨gX1, 0, none⟩) l1.length l1.length) := by rw [Bx1_t16.cell]; rfl
  go_wp2_with fail
  clear qB00 qB01 qB10 qB11 qBx00 qBx01 qBx10 qBx11
  refine (implWorkRowsO X0_t17 X1_t17 hf0 hf1 hlen0 hlen1).mono ?_
  rw [HV0.out]
  rintro e w8 ⟨VG, rfl, G_n, hb8⟩
  have W_t18 := W_t17.next hb8
  clear W_t17
  have X0_t18 := X0_t17.next hb8
  clear X0_t17
  have X1_t18 := X1_t17.next hb8
  clear X1_t17
  have B0_t18 := B0_t17.next hb8
  clear B0_t17
  have B1_t18 := B1_t17.next hb8
  clear B1_t17
  have Bx0_t18 := Bx0_t17.next hb8
  clear Bx0_t17
  have Bx1_t18 := Bx1_t16.next hb8
  clear Bx1_t16
  have hw_t18 := below_next hw_t17 hb8
  have hs_t18 := hb8.size
  have ge_G : ∀ g, VG.ownBlock = some g → ((w7.alloc (.cells #[.int .i64 z1, .slice (some ⟨gX1, 0, none⟩) l1.length l1.length] 38))).heap.size ≤ g := fun g hg => (G_n.block_lt hg).1
  have lt_G : ∀ g, VG.ownBlock = some g → g < w8.heap.size := fun g hg => (G_n.block_lt hg).2
  have qB00 : w8.cell? ⟨w.heap.size, 0, none⟩ = some (.int .i64 z0) := by rw [B0_t18.cell]; rfl
  have qB01 : w8.cell? ⟨w.heap.size, 1, none⟩ = some (.slice A0 l0.length c0) := by rw [B0_t18.cell]; rfl
  have qB10 : w8.cell? ⟨w.heap.size + 1, 0, none⟩ = some (.int .i64 z1) := by rw [B1_t18.cell]; rfl
  have qB11 : w8.cell? ⟨w.heap.size + 1, 1, none⟩ = some (.slice A1 l1.length c1) := by rw [B1_t18.cell]; rfl
  have qBx00 : w8.cell? ⟨w6.heap.size, 0, none⟩ = some (.int .i64 z0) := by rw [Bx0_t18.cell]; rfl
  have qBx01 : w8.cell? ⟨w6.heap.size, 1, none⟩ = some (.slice (some ⟨gX0, 0, none⟩) l0.length l0.length) := by rw [Bx0_t18.cell]; rfl
  have qBx10 : w8.cell? ⟨w7.heap.size, 0, none⟩ = some (.int .i64 z1) := by rw [Bx1_t18.cell]; rfl
  have qBx11 : w8.cell? ⟨w7.heap.size, 1, none⟩ = some (.slice (some ⟨gX1, 0, none⟩) l1.length l1.length) := by rw [Bx1_t18.cell]; rfl
  go_wp2_with fail
  clear qB00 qB01 qB10 qB11 qBx00 qBx01 qBx10 qBx11
  refine (eqOwn_c _ _ vl0 vl0 _ _ _ G_n W_t18 (by omega) (by omega)).mono ?_
  rintro e w9 ⟨rfl, hb9⟩
  rw [HE0.out]
  have W_t19 := W_t18.next hb9
  clear W_t18
  have X0_t19 := X0_t18.next hb9
  clear X0_t18
  have X1_t19 := X1_t18.next hb9
  clear X1_t18
  have G_t19 := G_n.next hb9
  clear G_n
  have B0_t19 := B0_t18.next hb9
  clear B0_t18
  have B1_t19 := B1_t18.next hb9
  clear B1_t18
  have Bx0_t19 := Bx0_t18.next hb9
  clear Bx0_t18
  have Bx1_t19 := Bx1_t18.next hb9
  clear Bx1_t18
  have hw_t19 := below_next hw_t18 hb9
  have hs_t19 := hb9.size
  have qB00 : w9.cell? ⟨w.heap.size, 0, none⟩ = some (.int .i64 z0) := by rw [B0_t19.cell]; rfl
  have qB01 : w9.cell? ⟨w.heap.size, 1, none⟩ = some (.slice A0 l0.length c0) := by rw [B0_t19.cell]; rfl
  have qB10 : w9.cell? ⟨w.heap.size + 1, 0, none⟩ = some (.int .i64 z1) := by rw [B1_t19.cell]; rfl
  have qB11 : w9.cell? ⟨w.heap.size + 1, 1, none⟩ = some (.slice A1 l1.length c1) := by rw [B1_t19.cell]; rfl
  have qBx00 : w9.cell? ⟨w6.heap.size, 0, none⟩ = some (.int .i64 z0) := by rw [Bx0_t19.cell]; rfl
  have qBx01 : w9.cell? ⟨w6.heap.size, 1, none⟩ = some (.slice (some ⟨gX0, 0, none⟩) l0.length l0.length) := by rw [Bx0_t19.cell]; rfl
  have qBx10 : w9.cell? ⟨w7.heap.size, 0, none⟩ = some (.int .i64 z1) := by rw [Bx1_t19.cell]; rfl
  have qBx11 : w9.cell? ⟨w7.heap.size, 1, none⟩ = some (.slice (some ⟨gX1, 0, none⟩) l1.length l1.length) := by rw [Bx1_t19.cell]; rfl
  go_wp2
  clear qB00 qB01 qB10 qB11 qBx00 qBx01 qBx10 qBx11
  have hb_t20 : Below w9.heap.size w9 w9.drew := (Below.refl _ _).drew
  have W_t21 := W_t19.next hb_t20
  clear W_t19
  have X0_t21 := X0_t19.next hb_t20
  clear X0_t19
  have X1_t21 := X1_t19.next hb_t20
  clear X1_t19
  have G_t21 := G_t19.next hb_t20
  clear G_t19
  have B0_t21 := B0_t19.next hb_t20
  clear B0_t19
  have B1_t21 := B1_t19.next hb_t20
  clear B1_t19
  have Bx0_t21 := Bx0_t19.next hb_t20
  clear Bx0_t19
  have Bx1_t21 := Bx1_t19.next hb_t20
  clear Bx1_t19
  have hw_t21 := below_next hw_t19 hb_t20
  have hs_t21 := hb_t20.size
  refine wp_region_held_drew (S := (fun W => W.cell? ⟨w.heap.size, 0, none⟩ = some (.int .i64 z0) ∧ W.cell? ⟨w.heap.size, 1, none⟩ = some (.slice A0 l0.length c0) ∧ W.cell? ⟨w.heap.size + 1, 0, none⟩ = some (.int .i64 z1) ∧ W.cell? ⟨w.heap.size + 1, 1, none⟩ = some (.slice A1 l1.length c1) ∧ W.cell? ⟨w6.heap.size, 0, none⟩ = some (.int .i64 z0) ∧ W.cell? ⟨w6.heap.size, 1, none⟩ = some (.slice (some ⟨gX0, 0, none⟩) l0.length l0.length) ∧ W.cell? ⟨w7.heap.size, 0, none⟩ = some (.int .i64 z1) ∧ W.cell? ⟨w7.heap.size, 1, none⟩ = some (.slice (some ⟨gX1, 0, none⟩) l1.length l1.length))) (by kernel_rfl) ?_ (fun hHeld => ?_)
  focus ((try dsimp only); (exact ⟨by rw [B0_t21.cell]; rfl, by rw [B0_t21.cell]; rfl, by rw [B1_t21.cell]; rfl, by rw [B1_t21.cell]; rfl, by rw [Bx0_t21.cell]; rfl, by rw [Bx0_t21.cell]; rfl, by rw [Bx1_t21.cell]; rfl, by rw [Bx1_t21.cell]; rfl⟩))
  (refine tk 0 ?_; try simp only [Act.put, pa, pb, pc])
  (refine tk 1 ?_; try simp only [Act.put, pa, pb, pc])
  (refine rd1 2 (fun K hK => ?_); go_simp; (go_at_call 19; refine (toVers_c z0 A0 c0 l0 _ hc0 hlen0 ((hr0.below hw_t21).more hw_t21.size)).mono ?_; rintro e w10 ⟨gZ0, rfl, Z0_n, ge_Z00, lt_Z00, hb10⟩; have W_t22 := W_t21.next hb10; clear W_t21; have X0_t22 := X0_t21.next hb10; clear X0_t21; have X1_t22 := X1_t21.next hb10; clear X1_t21; have G_t22 := G_t21.next hb10; clear G_t21; have B0_t22 := B0_t21.next hb10; clear B0_t21; have B1_t22 := B1_t21.next hb10; clear B1_t21; have Bx0_t22 := Bx0_t21.next hb10; clear Bx0_t21; have Bx1_t22 := Bx1_t21.next hb10; clear Bx1_t21; have hw_t22 := below_next hw_t21 hb10; have hs_t22 := hb10.size; have ge_Z0 : ∀ g, (Value.slice (some ⟨gZ0, 0, none⟩) l0.length l0.length).ownBlock = some g → (w9.drew).heap.size ≤ g := fun g hg => (by have : gZ0 = g := Option.some.inj hg; omega); have lt_Z0 : ∀ g, (Value.slice (some ⟨gZ0, 0, none⟩) l0.length l0.length).ownBlock = some g → g < w10.heap.size := fun g hg => (by have : gZ0 = g := Option.some.inj hg; omega); clear ge_Z00 lt_Z00); go_wp2_with fail; refine hK.out _ _ ?_ (fun hHeld => ?_); (focus ((try dsimp only); (exact ⟨by rw [B0_t22.cell]; rfl, by rw [B0_t22.cell]; rfl, by rw [B1_t22.cell]; rfl, by rw [B1_t22.cell]; rfl, by rw [Bx0_t22.cell]; rfl, by rw [Bx0_t22.cell]; rfl, by rw [Bx1_t22.cell]; rfl, by rw [Bx1_t22.cell]; rfl⟩))); clear hK K; (try simp only [Act.put, pa, pb, pc]))
  (refine rd1 3 (fun K hK => ?_); go_simp; (go_at_call 23; refine (eqVers_c z0 z0 _ _ l0 l0 _ _ _ X0_t22 Z0_n (by omega) (by omega)).mono ?_; rintro e w11 ⟨rfl, hb11⟩; rw [HA0.out]; have W_t23 := W_t22.next hb11; clear W_t22; have X0_t23 := X0_t22.next hb11; clear X0_t22; have X1_t23 := X1_t22.next hb11; clear X1_t22; have G_t23 := G_t22.next hb11; clear G_t22; have Z0_t23 := Z0_n.next hb11; clear Z0_n; have B0_t23 := B0_t22.next hb11; clear B0_t22; have B1_t23 := B1_t22.next hb11; clear B1_t22; have Bx0_t23 := Bx0_t22.next hb11; clear Bx0_t22; have Bx1_t23 := Bx1_t22.next hb11; clear Bx1_t22; have hw_t23 := below_next hw_t22 hb11; have hs_t23 := hb11.size); go_wp2_with fail; refine hK.out _ _ ?_ (fun hHeld => ?_); (focus ((try dsimp only); (exact ⟨by rw [B0_t23.cell]; rfl, by rw [B0_t23.cell]; rfl, by rw [B1_t23.cell]; rfl, by rw [B1_t23.cell]; rfl, by rw [Bx0_t23.cell]; rfl, by rw [Bx0_t23.cell]; rfl, by rw [Bx1_t23.cell]; rfl, by rw [Bx1_t23.cell]; rfl⟩))); clear hK K; (try simp only [Act.put, pa, pb, pc]))
  (refine tk 4 ?_; try simp only [Act.put, pa, pb, pc])
  refine wpAnyH_done (by kernel_rfl) ?_ _
  clear Z0_t23
  have qB00 : w11.cell? ⟨w.heap.size, 0, none⟩ = some (.int .i64 z0) := by rw [B0_t23.cell]; rfl
  have qB01 : w11.cell? ⟨w.heap.size, 1, none⟩ = some (.slice A0 l0.length c0) := by rw [B0_t23.cell]; rfl
  have qB10 : w11.cell? ⟨w.heap.size + 1, 0, none⟩ = some (.int .i64 z1) := by rw [B1_t23.cell]; rfl
  have qB11 : w11.cell? ⟨w.heap.size + 1, 1, none⟩ = some (.slice A1 l1.length c1) := by rw [B1_t23.cell]; rfl
  have qBx00 : w11.cell? ⟨w6.heap.size, 0, none⟩ = some (.int .i64 z0) := by rw [Bx0_t23.cell]; rfl
  have qBx01 : w11.cell? ⟨w6.heap.size, 1, none⟩ = some (.slice (some ⟨gX0, 0, none⟩) l0.length l0.length) := by rw [Bx0_t23.cell]; rfl
  have qBx10 : w11.cell? ⟨w7.heap.size, 0, none⟩ = some (.int .i64 z1) := by rw [Bx1_t23.cell]; rfl
  have qBx11 : w11.cell? ⟨w7.heap.size, 1, none⟩ = some (.slice (some ⟨gX1, 0, none⟩) l1.length l1.length) := by rw [Bx1_t23.cell]; rfl
  go_wp2
  clear qB00 qB01 qB10 qB11 qBx00 qBx01 qBx10 qBx11
  have hb_t24 : Below w11.heap.size w11 w11.drew := (Below.refl _ _).drew
  have W_t25 := W_t23.next hb_t24
  clear W_t23
  have X0_t25 := X0_t23.next hb_t24
  clear X0_t23
  have X1_t25 := X1_t23.next hb_t24
  clear X1_t23
  have G_t25 := G_t23.next hb_t24
  clear G_t23
  have B0_t25 := B0_t23.next hb_t24
  clear B0_t23
  have B1_t25 := B1_t23.next hb_t24
  clear B1_t23
  have Bx0_t25 := Bx0_t23.next hb_t24
  clear Bx0_t23
  have Bx1_t25 := Bx1_t23.next hb_t24
  clear Bx1_t23
  have hw_t25 := below_next hw_t23 hb_t24
  have hs_t25 := hb_t24.size
  refine wp_region_held_drew (S := (fun W => W.cell? ⟨w.heap.size, 0, none⟩ = some (.int .i64 z0) ∧ W.cell? ⟨w.heap.size, 1, none⟩ = some (.slice A0 l0.length c0) ∧ W.cell? ⟨w.heap.size + 1, 0, none⟩ = some (.int .i64 z1) ∧ W.cell? ⟨w.heap.size + 1, 1, none⟩ = some (.slice A1 l1.length c1) ∧ W.cell? ⟨w6.heap.size, 0, none⟩ = some (.int .i64 z0) ∧ W.cell? ⟨w6.heap.size, 1, none⟩ = some (.slice (some ⟨gX0, 0, none⟩) l0.length l0.length) ∧ W.cell? ⟨w7.heap.size, 0, none⟩ = some (.int .i64 z1) ∧ W.cell? ⟨w7.heap.size, 1, none⟩ = some (.slice (some ⟨gX1, 0, none⟩) l1.length l1.length))) (by kernel_rfl) ?_ (fun hHeld => ?_)
  focus ((try dsimp only); (exact ⟨by rw [B0_t25.cell]; rfl, by rw [B0_t25.cell]; rfl, by rw [B1_t25.cell]; rfl, by rw [B1_t25.cell]; rfl, by rw [Bx0_t25.cell]; rfl, by rw [Bx0_t25.cell]; rfl, by rw [Bx1_t25.cell]; rfl, by rw [Bx1_t25.cell]; rfl⟩))
  (refine tk 0 ?_; try simp only [Act.put, pa, pb, pc])
  (refine tk 1 ?_; try simp only [Act.put, pa, pb, pc])
  (refine rd1 2 (fun K hK => ?_); go_simp; (go_at_call 20; refine (toWork_c z1 A1 c1 l1 _ hc1 hlen1 ((hr1.below hw_t25).more hw_t25.size)).mono ?_; rintro e w12 ⟨gZ1, rfl, Z1_n, ge_Z10, lt_Z10, hb12⟩; have W_t26 := W_t25.next hb12; clear W_t25; have X0_t26 := X0_t25.next hb12; clear X0_t25; have X1_t26 := X1_t25.next hb12; clear X1_t25; have G_t26 := G_t25.next hb12; clear G_t25; have B0_t26 := B0_t25.next hb12; clear B0_t25; have B1_t26 := B1_t25.next hb12; clear B1_t25; have Bx0_t26 := Bx0_t25.next hb12; clear Bx0_t25; have Bx1_t26 := Bx1_t25.next hb12; clear Bx1_t25; have hw_t26 := below_next hw_t25 hb12; have hs_t26 := hb12.size; have ge_Z1 : ∀ g, (Value.slice (some ⟨gZ1, 0, none⟩) l1.length l1.length).ownBlock = some g → (w11.drew).heap.size ≤ g := fun g hg => (by have : gZ1 = g := Option.some.inj hg; omega); have lt_Z1 : ∀ g, (Value.slice (some ⟨gZ1, 0, none⟩) l1.length l1.length).ownBlock = some g → g < w12.heap.size := fun g hg => (by have : gZ1 = g := Option.some.inj hg; omega); clear ge_Z10 lt_Z10); go_wp2_with fail; refine hK.out _ _ ?_ (fun hHeld => ?_); (focus ((try dsimp only); (exact ⟨by rw [B0_t26.cell]; rfl, by rw [B0_t26.cell]; rfl, by rw [B1_t26.cell]; rfl, by rw [B1_t26.cell]; rfl, by rw [Bx0_t26.cell]; rfl, by rw [Bx0_t26.cell]; rfl, by rw [Bx1_t26.cell]; rfl, by rw [Bx1_t26.cell]; rfl⟩))); clear hK K; (try simp only [Act.put, pa, pb, pc]))
  (refine rd1 3 (fun K hK => ?_); go_simp; (go_at_call 24; refine (eqWork_c z1 z1 _ _ l1 l1 _ _ _ X1_t26 Z1_n (by omega) (by omega)).mono ?_; rintro e w13 ⟨rfl, hb13⟩; rw [HA1.out]; have W_t27 := W_t26.next hb13; clear W_t26; have X0_t27 := X0_t26.next hb13; clear X0_t26; have X1_t27 := X1_t26.next hb13; clear X1_t26; have G_t27 := G_t26.next hb13; clear G_t26; have Z1_t27 := Z1_n.next hb13; clear Z1_n; have B0_t27 := B0_t26.next hb13; clear B0_t26; have B1_t27 := B1_t26.next hb13; clear B1_t26; have Bx0_t27 := Bx0_t26.next hb13; clear Bx0_t26; have Bx1_t27 := Bx1_t26.next hb13; clear Bx1_t26; have hw_t27 := below_next hw_t26 hb13; have hs_t27 := hb13.size); go_wp2_with fail; refine hK.out _ _ ?_ (fun hHeld => ?_); (focus ((try dsimp only); (exact ⟨by rw [B0_t27.cell]; rfl, by rw [B0_t27.cell]; rfl, by rw [B1_t27.cell]; rfl, by rw [B1_t27.cell]; rfl, by rw [Bx0_t27.cell]; rfl, by rw [Bx0_t27.cell]; rfl, by rw [Bx1_t27.cell]; rfl, by rw [Bx1_t27.cell]; rfl⟩))); clear hK K; (try simp only [Act.put, pa, pb, pc]))
  (refine tk 4 ?_; try simp only [Act.put, pa, pb, pc])
  refine wpAnyH_done (by kernel_rfl) ?_ _
  clear Z1_t27
  have qB00 : w13.cell? ⟨w.heap.size, 0, none⟩ = some (.int .i64 z0) := by rw [B0_t27.cell]; rfl
  have qB01 : w13.cell? ⟨w.heap.size, 1, none⟩ = some (.slice A0 l0.length c0) := by rw [B0_t27.cell]; rfl
  have qB10 : w13.cell? ⟨w.heap.size + 1, 0, none⟩ = some (.int .i64 z1) := by rw [B1_t27.cell]; rfl
  have qB11 : w13.cell? ⟨w.heap.size + 1, 1, none⟩ = some (.slice A1 l1.length c1) := by rw [B1_t27.cell]; rfl
  have qBx00 : w13.cell? ⟨w6.heap.size, 0, none⟩ = some (.int .i64 z0) := by rw [Bx0_t27.cell]; rfl
  have qBx01 : w13.cell? ⟨w6.heap.size, 1, none⟩ = some (.slice (some ⟨gX0, 0, none⟩) l0.length l0.length) := by rw [Bx0_t27.cell]; rfl
  have qBx10 : w13.cell? ⟨w7.heap.size, 0, none⟩ = some (.int .i64 z1) := by rw [Bx1_t27.cell]; rfl
  have qBx11 : w13.cell? ⟨w7.heap.size, 1, none⟩ = some (.slice (some ⟨gX1, 0, none⟩) l1.length l1.length) := by rw [Bx1_t27.cell]; rfl
  go_wp2_with fail
  clear qB00 qB01 qB10 qB11 qBx00 qBx01 qBx10 qBx11
  refine (markVers_c z0 _ l0 _ (1) _ X0_t27 (by omega) (by omega)).mono ?_
  rintro e w14 ⟨rfl, hM14, hg14⟩
  have hw_t28 : Below w.heap.size w w14 := belowGrow hw_t27 hg14 (fun k hk => by have := ge_X0 k hk; omega)
  have hs_t28 := hg14.size
  have W_t28 := W_t27.kept hg14 (fun g hg h => by have h1 := ge_X0 g h.symm; have h2 := lt_X0 g h.symm; have h3 := ge_W g hg; have h4 := lt_W g hg; omega)
  clear W_t27
  have X1_t28 := X1_t27.kept hg14 (fun g hg h => by have h1 := ge_X0 g h.symm; have h2 := lt_X0 g h.symm; have h3 := ge_X1 g hg; have h4 := lt_X1 g hg; omega)
  clear X1_t27
  have G_t28 := G_t27.kept hg14 (fun g hg h => by have h1 := ge_X0 g h.symm; have h2 := lt_X0 g h.symm; have h3 := ge_G g hg; have h4 := lt_G g hg; omega)
  clear G_t27
  have B0_t28 := B0_t27.grown hg14 (fun h => by have h1 := ge_X0 _ h.symm; have h2 := lt_X0 _ h.symm; omega)
  clear B0_t27
  have B1_t28 := B1_t27.grown hg14 (fun h => by have h1 := ge_X0 _ h.symm; have h2 := lt_X0 _ h.symm; omega)
  clear B1_t27
  have Bx0_t28 := Bx0_t27.grown hg14 (fun h => by have h1 := ge_X0 _ h.symm; have h2 := lt_X0 _ h.symm; omega)
  clear Bx0_t27
  have Bx1_t28 := Bx1_t27.grown hg14 (fun h => by have h1 := ge_X0 _ h.symm; have h2 := lt_X0 _ h.symm; omega)
  clear Bx1_t27
  clear X0_t27 hg14
  clear hM14
  have qB00 : w14.cell? ⟨w.heap.size, 0, none⟩ = some (.int .i64 z0) := by rw [B0_t28.cell]; rfl
  have qB01 : w14.cell? ⟨w.heap.size, 1, none⟩ = some (.slice A0 l0.length c0) := by rw [B0_t28.cell]; rfl
  have qB10 : w14.cell? ⟨w.heap.size + 1, 0, none⟩ = some (.int .i64 z1) := by rw [B1_t28.cell]; rfl
  have qB11 : w14.cell? ⟨w.heap.size + 1, 1, none⟩ = some (.slice A1 l1.length c1) := by rw [B1_t28.cell]; rfl
  have qBx00 : w14.cell? ⟨w6.heap.size, 0, none⟩ = some (.int .i64 z0) := by rw [Bx0_t28.cell]; rfl
  have qBx01 : w14.cell? ⟨w6.heap.size, 1, none⟩ = some (.slice (some ⟨gX0, 0, none⟩) l0.length l0.length) := by rw [Bx0_t28.cell]; rfl
  have qBx10 : w14.cell? ⟨w7.heap.size, 0, none⟩ = some (.int .i64 z1) := by rw [Bx1_t28.cell]; rfl
  have qBx11 : w14.cell? ⟨w7.heap.size, 1, none⟩ = some (.slice (some ⟨gX1, 0, none⟩) l1.length l1.length) := by rw [Bx1_t28.cell]; rfl
  go_wp2_with fail
  clear qB00 qB01 qB10 qB11 qBx00 qBx01 qBx10 qBx11
  refine (markWork_c z1 _ l1 _ (1 + 4 * l0.length) _ X1_t28 (by omega) (by omega)).mono ?_
  rintro e w15 ⟨rfl, hM15, hg15⟩
  have hw_t29 : Below w.heap.size w w15 := belowGrow hw_t28 hg15 (fun k hk => by have := ge_X1 k hk; omega)
  have hs_t29 := hg15.size
  have W_t29 := W_t28.kept hg15 (fun g hg h => by have h1 := ge_X1 g h.symm; have h2 := lt_X1 g h.symm; have h3 := ge_W g hg; have h4 := lt_W g hg; omega)
  clear W_t28
  have G_t29 := G_t28.kept hg15 (fun g hg h => by have h1 := ge_X1 g h.symm; have h2 := lt_X1 g h.symm; have h3 := ge_G g hg; have h4 := lt_G g hg; omega)
  clear G_t28
  have B0_t29 := B0_t28.grown hg15 (fun h => by have h1 := ge_X1 _ h.symm; have h2 := lt_X1 _ h.symm; omega)
  clear B0_t28
  have B1_t29 := B1_t28.grown hg15 (fun h => by have h1 := ge_X1 _ h.symm; have h2 := lt_X1 _ h.symm; omega)
  clear B1_t28
  have Bx0_t29 := Bx0_t28.grown hg15 (fun h => by have h1 := ge_X1 _ h.symm; have h2 := lt_X1 _ h.symm; omega)
  clear Bx0_t28
  have Bx1_t29 := Bx1_t28.grown hg15 (fun h => by have h1 := ge_X1 _ h.symm; have h2 := lt_X1 _ h.symm; omega)
  clear Bx1_t28
  clear X1_t28 hg15
  clear hM15
  have qB00 : w15.cell? ⟨w.heap.size, 0, none⟩ = some (.int .i64 z0) := by rw [B0_t29.cell]; rfl
  have qB01 : w15.cell? ⟨w.heap.size, 1, none⟩ = some (.slice A0 l0.length c0) := by rw [B0_t29.cell]; rfl
  have qB10 : w15.cell? ⟨w.heap.size + 1, 0, none⟩ = some (.int .i64 z1) := by rw [B1_t29.cell]; rfl
  have qB11 : w15.cell? ⟨w.heap.size + 1, 1, none⟩ = some (.slice A1 l1.length c1) := by rw [B1_t29.cell]; rfl
  have qBx00 : w15.cell? ⟨w6.heap.size, 0, none⟩ = some (.int .i64 z0) := by rw [Bx0_t29.cell]; rfl
  have qBx01 : w15.cell? ⟨w6.heap.size, 1, none⟩ = some (.slice (some ⟨gX0, 0, none⟩) l0.length l0.length) := by rw [Bx0_t29.cell]; rfl
  have qBx10 : w15.cell? ⟨w7.heap.size, 0, none⟩ = some (.int .i64 z1) := by rw [Bx1_t29.cell]; rfl
  have qBx11 : w15.cell? ⟨w7.heap.size, 1, none⟩ = some (.slice (some ⟨gX1, 0, none⟩) l1.length l1.length) := by rw [Bx1_t29.cell]; rfl
  go_wp2_with fail
  clear qB00 qB01 qB10 qB11 qBx00 qBx01 qBx10 qBx11
  refine (eqOwn_c _ _ vl0 vl0 _ _ _ G_t29 W_t29 (by omega) (by omega)).mono ?_
  rintro e w16 ⟨rfl, hb16⟩
  rw [HE0.out]
  have W_t30 := W_t29.next hb16
  clear W_t29
  have G_t30 := G_t29.next hb16
  clear G_t29
  have B0_t30 := B0_t29.next hb16
  clear B0_t29
  have B1_t30 := B1_t29.next hb16
  clear B1_t29
  have Bx0_t30 := Bx0_t29.next hb16
  clear Bx0_t29
  have Bx1_t30 := Bx1_t29.next hb16
  clear Bx1_t29
  have hw_t30 := below_next hw_t29 hb16
  have hs_t30 := hb16.size
  have qB00 : w16.cell? ⟨w.heap.size, 0, none⟩ = some (.int .i64 z0) := by rw [B0_t30.cell]; rfl
  have qB01 : w16.cell? ⟨w.heap.size, 1, none⟩ = some (.slice A0 l0.length c0) := by rw [B0_t30.cell]; rfl
  have qB10 : w16.cell? ⟨w.heap.size + 1, 0, none⟩ = some (.int .i64 z1) := by rw [B1_t30.cell]; rfl
  have qB11 : w16.cell? ⟨w.heap.size + 1, 1, none⟩ = some (.slice A1 l1.length c1) := by rw [B1_t30.cell]; rfl
  have qBx00 : w16.cell? ⟨w6.heap.size, 0, none⟩ = some (.int .i64 z0) := by rw [Bx0_t30.cell]; rfl
  have qBx01 : w16.cell? ⟨w6.heap.size, 1, none⟩ = some (.slice (some ⟨gX0, 0, none⟩) l0.length l0.length) := by rw [Bx0_t30.cell]; rfl
  have qBx10 : w16.cell? ⟨w7.heap.size, 0, none⟩ = some (.int .i64 z1) := by rw [Bx1_t30.cell]; rfl
  have qBx11 : w16.cell? ⟨w7.heap.size, 1, none⟩ = some (.slice (some ⟨gX1, 0, none⟩) l1.length l1.length) := by rw [Bx1_t30.cell]; rfl
  go_wp2_with fail
  clear qB00 qB01 qB10 qB11 qBx00 qBx01 qBx10 qBx11
  refine (markR_c _ vl0 _ 1 _ G_t30 (by omega) (by omega)).mono ?_
  rintro e w17 ⟨rfl, hM17, hg17⟩
  have hw_t31 : Below w.heap.size w w17 := belowGrow hw_t30 hg17 (fun k hk => by have := ge_G k hk; omega)
  have hs_t31 := hg17.size
  have W_t31 := W_t30.kept hg17 (fun g hg h => by have h1 := ge_G g h.symm; have h2 := lt_G g h.symm; have h3 := ge_W g hg; have h4 := lt_W g hg; omega)
  clear W_t30
  have B0_t31 := B0_t30.grown hg17 (fun h => by have h1 := ge_G _ h.symm; have h2 := lt_G _ h.symm; omega)
  clear B0_t30
  have B1_t31 := B1_t30.grown hg17 (fun h => by have h1 := ge_G _ h.symm; have h2 := lt_G _ h.symm; omega)
  clear B1_t30
  have Bx0_t31 := Bx0_t30.grown hg17 (fun h => by have h1 := ge_G _ h.symm; have h2 := lt_G _ h.symm; omega)
  clear Bx0_t30
  have Bx1_t31 := Bx1_t30.grown hg17 (fun h => by have h1 := ge_G _ h.symm; have h2 := lt_G _ h.symm; omega)
  clear Bx1_t30
  clear G_t30 hg17
  have qB00 : w17.cell? ⟨w.heap.size, 0, none⟩ = some (.int .i64 z0) := by rw [B0_t31.cell]; rfl
  have qB01 : w17.cell? ⟨w.heap.size, 1, none⟩ = some (.slice A0 l0.length c0) := by rw [B0_t31.cell]; rfl
  have qB10 : w17.cell? ⟨w.heap.size + 1, 0, none⟩ = some (.int .i64 z1) := by rw [B1_t31.cell]; rfl
  have qB11 : w17.cell? ⟨w.heap.size + 1, 1, none⟩ = some (.slice A1 l1.length c1) := by rw [B1_t31.cell]; rfl
  have qBx00 : w17.cell? ⟨w6.heap.size, 0, none⟩ = some (.int .i64 z0) := by rw [Bx0_t31.cell]; rfl
  have qBx01 : w17.cell? ⟨w6.heap.size, 1, none⟩ = some (.slice (some ⟨gX0, 0, none⟩) l0.length l0.length) := by rw [Bx0_t31.cell]; rfl
  have qBx10 : w17.cell? ⟨w7.heap.size, 0, none⟩ = some (.int .i64 z1) := by rw [Bx1_t31.cell]; rfl
  have qBx11 : w17.cell? ⟨w7.heap.size, 1, none⟩ = some (.slice (some ⟨gX1, 0, none⟩) l1.length l1.length) := by rw [Bx1_t31.cell]; rfl
  go_wp2_with fail
  clear qB00 qB01 qB10 qB11 qBx00 qBx01 qBx10 qBx11
  refine (heldR_c _ vl0.length _ 1 _ hM17 (by omega) (by omega)).mono ?_
  rintro e w18 ⟨rfl, hb18⟩
  have W_t32 := W_t31.next hb18
  clear W_t31
  have G_t32 := hM17.next hb18
  clear hM17
  have B0_t32 := B0_t31.next hb18
  clear B0_t31
  have B1_t32 := B1_t31.next hb18
  clear B1_t31
  have Bx0_t32 := Bx0_t31.next hb18
  clear Bx0_t31
  have Bx1_t32 := Bx1_t31.next hb18
  clear Bx1_t31
  have hw_t32 := below_next hw_t31 hb18
  have hs_t32 := hb18.size
  have qB00 : w18.cell? ⟨w.heap.size, 0, none⟩ = some (.int .i64 z0) := by rw [B0_t32.cell]; rfl
  have qB01 : w18.cell? ⟨w.heap.size, 1, none⟩ = some (.slice A0 l0.length c0) := by rw [B0_t32.cell]; rfl
  have qB10 : w18.cell? ⟨w.heap.size + 1, 0, none⟩ = some (.int .i64 z1) := by rw [B1_t32.cell]; rfl
  have qB11 : w18.cell? ⟨w.heap.size + 1, 1, none⟩ = some (.slice A1 l1.length c1) := by rw [B1_t32.cell]; rfl
  have qBx00 : w18.cell? ⟨w6.heap.size, 0, none⟩ = some (.int .i64 z0) := by rw [Bx0_t32.cell]; rfl
  have qBx01 : w18.cell? ⟨w6.heap.size, 1, none⟩ = some (.slice (some ⟨gX0, 0, none⟩) l0.length l0.length) := by rw [Bx0_t32.cell]; rfl
  have qBx10 : w18.cell? ⟨w7.heap.size, 0, none⟩ = some (.int .i64 z1) := by rw [Bx1_t32.cell]; rfl
  have qBx11 : w18.cell? ⟨w7.heap.size, 1, none⟩ = some (.slice (some ⟨gX1, 0, none⟩) l1.length l1.length) := by rw [Bx1_t32.cell]; rfl
  go_wp2
  clear qB00 qB01 qB10 qB11 qBx00 qBx01 qBx10 qBx11
  have hb_t33 : Below w18.heap.size w18 w18.drew := (Below.refl _ _).drew
  have W_t34 := W_t32.next hb_t33
  clear W_t32
  have G_t34 := G_t32.next hb_t33
  clear G_t32
  have B0_t34 := B0_t32.next hb_t33
  clear B0_t32
  have B1_t34 := B1_t32.next hb_t33
  clear B1_t32
  have Bx0_t34 := Bx0_t32.next hb_t33
  clear Bx0_t32
  have Bx1_t34 := Bx1_t32.next hb_t33
  clear Bx1_t32
  have hw_t34 := below_next hw_t32 hb_t33
  have hs_t34 := hb_t33.size
  refine wp_region_held_drew (S := (fun W => W.cell? ⟨w.heap.size, 0, none⟩ = some (.int .i64 z0) ∧ W.cell? ⟨w.heap.size, 1, none⟩ = some (.slice A0 l0.length c0) ∧ W.cell? ⟨w.heap.size + 1, 0, none⟩ = some (.int .i64 z1) ∧ W.cell? ⟨w.heap.size + 1, 1, none⟩ = some (.slice A1 l1.length c1) ∧ W.cell? ⟨w6.heap.size, 0, none⟩ = some (.int .i64 z0) ∧ W.cell? ⟨w6.heap.size, 1, none⟩ = some (.slice (some ⟨gX0, 0, none⟩) l0.length l0.length) ∧ W.cell? ⟨w7.heap.size, 0, none⟩ = some (.int .i64 z1) ∧ W.cell? ⟨w7.heap.size, 1, none⟩ = some (.slice (some ⟨gX1, 0, none⟩) l1.length l1.length))) (by kernel_rfl) ?_ (fun hHeld => ?_)
  focus ((try dsimp only); (exact ⟨by rw [B0_t34.cell]; rfl, by rw [B0_t34.cell]; rfl, by rw [B1_t34.cell]; rfl, by rw [B1_t34.cell]; rfl, by rw [Bx0_t34.cell]; rfl, by rw [Bx0_t34.cell]; rfl, by rw [Bx1_t34.cell]; rfl, by rw [Bx1_t34.cell]; rfl⟩))
  (refine tk 0 ?_; try simp only [Act.put, pa, pb, pc])
  (refine tk 2 ?_; try simp only [Act.put, pa, pb, pc])
  (refine rd1 1 (fun K hK => ?_); go_simp; (go_at_call 19; refine (toVers_c z0 A0 c0 l0 _ hc0 hlen0 ((hr0.below hw_t34).more hw_t34.size)).mono ?_; rintro e w19 ⟨gU0, rfl, U0_n, ge_U00, lt_U00, hb19⟩; have W_t35 := W_t34.next hb19; clear W_t34; have G_t35 := G_t34.next hb19; clear G_t34; have B0_t35 := B0_t34.next hb19; clear B0_t34; have B1_t35 := B1_t34.next hb19; clear B1_t34; have Bx0_t35 := Bx0_t34.next hb19; clear Bx0_t34; have Bx1_t35 := Bx1_t34.next hb19; clear Bx1_t34; have hw_t35 := below_next hw_t34 hb19; have hs_t35 := hb19.size; have ge_U0 : ∀ g, (Value.slice (some ⟨gU0, 0, none⟩) l0.length l0.length).ownBlock = some g → (w18.drew).heap.size ≤ g := fun g hg => (by have : gU0 = g := Option.some.inj hg; omega); have lt_U0 : ∀ g, (Value.slice (some ⟨gU0, 0, none⟩) l0.length l0.length).ownBlock = some g → g < w19.heap.size := fun g hg => (by have : gU0 = g := Option.some.inj hg; omega); clear ge_U00 lt_U00); go_wp2_with fail; refine hK.out _ _ ?_ (fun hHeld => ?_); (focus ((try dsimp only); (exact ⟨by rw [B0_t35.cell]; rfl, by rw [B0_t35.cell]; rfl, by rw [B1_t35.cell]; rfl, by rw [B1_t35.cell]; rfl, by rw [Bx0_t35.cell]; rfl, by rw [Bx0_t35.cell]; rfl, by rw [Bx1_t35.cell]; rfl, by rw [Bx1_t35.cell]; rfl⟩))); clear hK K; (try simp only [Act.put, pa, pb, pc]))
  (refine rd1 3 (fun K hK => ?_); go_simp; (go_at_call 20; refine (toWork_c z1 A1 c1 l1 _ hc1 hlen1 ((hr1.below hw_t35).more hw_t35.size)).mono ?_; rintro e w20 ⟨gU1, rfl, U1_n, ge_U10, lt_U10, hb20⟩; have W_t36 := W_t35.next hb20; clear W_t35; have G_t36 := G_t35.next hb20; clear G_t35; have U0_t36 := U0_n.next hb20; clear U0_n; have B0_t36 := B0_t35.next hb20; clear B0_t35; have B1_t36 := B1_t35.next hb20; clear B1_t35; have Bx0_t36 := Bx0_t35.next hb20; clear Bx0_t35; have Bx1_t36 := Bx1_t35.next hb20; clear Bx1_t35; have hw_t36 := below_next hw_t35 hb20; have hs_t36 := hb20.size; have ge_U1 : ∀ g, (Value.slice (some ⟨gU1, 0, none⟩) l1.length l1.length).ownBlock = some g → (w19).heap.size ≤ g := fun g hg => (by have : gU1 = g := Option.some.inj hg; omega); have lt_U1 : ∀ g, (Value.slice (some ⟨gU1, 0, none⟩) l1.length l1.length).ownBlock = some g → g < w20.heap.size := fun g hg => (by have : gU1 = g := Option.some.inj hg; omega); clear ge_U10 lt_U10); go_wp2_with fail; refine hK.out _ _ ?_ (fun hHeld => ?_); (focus ((try dsimp only); (exact ⟨by rw [B0_t36.cell]; rfl, by rw [B0_t36.cell]; rfl, by rw [B1_t36.cell]; rfl, by rw [B1_t36.cell]; rfl, by rw [Bx0_t36.cell]; rfl, by rw [Bx0_t36.cell]; rfl, by rw [Bx1_t36.cell]; rfl, by rw [Bx1_t36.cell]; rfl⟩))); clear hK K; (try simp only [Act.put, pa, pb, pc]))
  (refine rd1 4 (fun K hK => ?_); go_simp; (go_at_call 21; refine (implWorkRowsO U0_t36 U1_n hf0 hf1 hlen0 hlen1).mono ?_; rw [HV0.out]; rintro e w21 ⟨VHh, rfl, Hh_n, hb21⟩; have W_t37 := W_t36.next hb21; clear W_t36; have G_t37 := G_t36.next hb21; clear G_t36; have U0_t37 := U0_t36.next hb21; clear U0_t36; have U1_t37 := U1_n.next hb21; clear U1_n; have B0_t37 := B0_t36.next hb21; clear B0_t36; have B1_t37 := B1_t36.next hb21; clear B1_t36; have Bx0_t37 := Bx0_t36.next hb21; clear Bx0_t36; have Bx1_t37 := Bx1_t36.next hb21; clear Bx1_t36; have hw_t37 := below_next hw_t36 hb21; have hs_t37 := hb21.size; have ge_Hh : ∀ g, VHh.ownBlock = some g → (w20).heap.size ≤ g := fun g hg => (Hh_n.block_lt hg).1; have lt_Hh : ∀ g, VHh.ownBlock = some g → g < w21.heap.size := fun g hg => (Hh_n.block_lt hg).2); go_wp2_with fail; refine hK.out _ _ ?_ (fun hHeld => ?_); (focus ((try dsimp only); (exact ⟨by rw [B0_t37.cell]; rfl, by rw [B0_t37.cell]; rfl, by rw [B1_t37.cell]; rfl, by rw [B1_t37.cell]; rfl, by rw [Bx0_t37.cell]; rfl, by rw [Bx0_t37.cell]; rfl, by rw [Bx1_t37.cell]; rfl, by rw [Bx1_t37.cell]; rfl⟩))); clear hK K; (try simp only [Act.put, pa, pb, pc]))
  (refine tk 5 ?_; try simp only [Act.put, pa, pb, pc])
  refine wpAnyH_done (by kernel_rfl) ?_ _
  clear U0_t37
  clear U1_t37
  have qB00 : w21.cell? ⟨w.heap.size, 0, none⟩ = some (.int .i64 z0) := by rw [B0_t37.cell]; rfl
  have qB01 : w21.cell? ⟨w.heap.size, 1, none⟩ = some (.slice A0 l0.length c0) := by rw [B0_t37.cell]; rfl
  have qB10 : w21.cell? ⟨w.heap.size + 1, 0, none⟩ = some (.int .i64 z1) := by rw [B1_t37.cell]; rfl
  have qB11 : w21.cell? ⟨w.heap.size + 1, 1, none⟩ = some (.slice A1 l1.length c1) := by rw [B1_t37.cell]; rfl
  have qBx00 : w21.cell? ⟨w6.heap.size, 0, none⟩ = some (.int .i64 z0) := by rw [Bx0_t37.cell]; rfl
  have qBx01 : w21.cell? ⟨w6.heap.size, 1, none⟩ = some (.slice (some ⟨gX0, 0, none⟩) l0.length l0.length) := by rw [Bx0_t37.cell]; rfl
  have qBx10 : w21.cell? ⟨w7.heap.size, 0, none⟩ = some (.int .i64 z1) := by rw [Bx1_t37.cell]; rfl
  have qBx11 : w21.cell? ⟨w7.heap.size, 1, none⟩ = some (.slice (some ⟨gX1, 0, none⟩) l1.length l1.length) := by rw [Bx1_t37.cell]; rfl
  go_wp2_with fail
  clear qB00 qB01 qB10 qB11 qBx00 qBx01 qBx10 qBx11
  refine (eqOwn_c _ _ vl0 vl0 _ _ _ Hh_n W_t37 (by omega) (by omega)).mono ?_
  rintro e w22 ⟨rfl, hb22⟩
  rw [HE0.out]
  have W_t38 := W_t37.next hb22
  clear W_t37
  have G_t38 := G_t37.next hb22
  clear G_t37
  have Hh_t38 := Hh_n.next hb22
  clear Hh_n
  have B0_t38 := B0_t37.next hb22
  clear B0_t37
  have B1_t38 := B1_t37.next hb22
  clear B1_t37
  have Bx0_t38 := Bx0_t37.next hb22
  clear Bx0_t37
  have Bx1_t38 := Bx1_t37.next hb22
  clear Bx1_t37
  have hw_t38 := below_next hw_t37 hb22
  have hs_t38 := hb22.size
  have qB00 : w22.cell? ⟨w.heap.size, 0, none⟩ = some (.int .i64 z0) := by rw [B0_t38.cell]; rfl
  have qB01 : w22.cell? ⟨w.heap.size, 1, none⟩ = some (.slice A0 l0.length c0) := by rw [B0_t38.cell]; rfl
  have qB10 : w22.cell? ⟨w.heap.size + 1, 0, none⟩ = some (.int .i64 z1) := by rw [B1_t38.cell]; rfl
  have qB11 : w22.cell? ⟨w.heap.size + 1, 1, none⟩ = some (.slice A1 l1.length c1) := by rw [B1_t38.cell]; rfl
  have qBx00 : w22.cell? ⟨w6.heap.size, 0, none⟩ = some (.int .i64 z0) := by rw [Bx0_t38.cell]; rfl
  have qBx01 : w22.cell? ⟨w6.heap.size, 1, none⟩ = some (.slice (some ⟨gX0, 0, none⟩) l0.length l0.length) := by rw [Bx0_t38.cell]; rfl
  have qBx10 : w22.cell? ⟨w7.heap.size, 0, none⟩ = some (.int .i64 z1) := by rw [Bx1_t38.cell]; rfl
  have qBx11 : w22.cell? ⟨w7.heap.size, 1, none⟩ = some (.slice (some ⟨gX1, 0, none⟩) l1.length l1.length) := by rw [Bx1_t38.cell]; rfl
  go_wp2_with fail
  clear qB00 qB01 qB10 qB11 qBx00 qBx01 qBx10 qBx11
  refine (heldR_c _ vl0.length _ 1 _ G_t38 (by omega) (by omega)).mono ?_
  rintro e w23 ⟨rfl, hb23⟩
  have W_t39 := W_t38.next hb23
  clear W_t38
  have G_t39 := G_t38.next hb23
  clear G_t38
  have Hh_t39 := Hh_t38.next hb23
  clear Hh_t38
  have B0_t39 := B0_t38.next hb23
  clear B0_t38
  have B1_t39 := B1_t38.next hb23
  clear B1_t38
  have Bx0_t39 := Bx0_t38.next hb23
  clear Bx0_t38
  have Bx1_t39 := Bx1_t38.next hb23
  clear Bx1_t38
  have hw_t39 := below_next hw_t38 hb23
  have hs_t39 := hb23.size
  have qB00 : w23.cell? ⟨w.heap.size, 0, none⟩ = some (.int .i64 z0) := by rw [B0_t39.cell]; rfl
  have qB01 : w23.cell? ⟨w.heap.size, 1, none⟩ = some (.slice A0 l0.length c0) := by rw [B0_t39.cell]; rfl
  have qB10 : w23.cell? ⟨w.heap.size + 1, 0, none⟩ = some (.int .i64 z1) := by rw [B1_t39.cell]; rfl
  have qB11 : w23.cell? ⟨w.heap.size + 1, 1, none⟩ = some (.slice A1 l1.length c1) := by rw [B1_t39.cell]; rfl
  have qBx00 : w23.cell? ⟨w6.heap.size, 0, none⟩ = some (.int .i64 z0) := by rw [Bx0_t39.cell]; rfl
  have qBx01 : w23.cell? ⟨w6.heap.size, 1, none⟩ = some (.slice (some ⟨gX0, 0, none⟩) l0.length l0.length) := by rw [Bx0_t39.cell]; rfl
  have qBx10 : w23.cell? ⟨w7.heap.size, 0, none⟩ = some (.int .i64 z1) := by rw [Bx1_t39.cell]; rfl
  have qBx11 : w23.cell? ⟨w7.heap.size, 1, none⟩ = some (.slice (some ⟨gX1, 0, none⟩) l1.length l1.length) := by rw [Bx1_t39.cell]; rfl
  go_wp2
  go_ret
  exact ⟨rfl, hw_t39⟩

set_option maxRecDepth 100000 in
theorem lifted (os : Os) (started : os.Started) (H : Type) (enc : TypeId × Value → H) :
    ReturnsInHanded {} Tryz.checked os 3 .any (Rows.fnExactWorkRowsSpec.pre6 enc Tryz.prog Tryz.f3 Rows.fnExactWorkRowsRow.domain false) (Rows.fnExactWorkRowsSpec.post enc Tryz.prog Tryz.f3 false true false false) := by
  refine returnsInHanded_of_change (C := Tryz.checked) Whole.own started (by kernel_rfl) Tryz.func3
    (ChangeSpec.witness6 (enc := enc) (C := Tryz.checked) false ⟨#[], #[.agg #[.int .i64 0, .slice none 0 0], .agg #[.int .i64 0, .slice none 0 0]], []⟩ 8 (by kernel_rfl) (by kernel_rfl) (by kernel_rfl) (by kernel_rfl)) ?_
  intro W base args ds gs before hval0 hW hcnd _
  have hval : ∀ (j : Nat) t v, Tryz.f3.params[j]? = some t → args[j]? = some v → Value.okWide Tryz.prog W .any base t v := hval0
  have hW' := hW
  obtain ⟨p, q, hA0, hV, rfl, hfz, hnd⟩ := hW
  have hA : DataW.TrodAll enc Tryz.prog W 0 (fun _ => true) true Tryz.f3.params.toList args.toList ds p := hA0
  rw [Tryz.params3] at hA hval
  obtain ⟨v0, vs0, d0, ds0, p0, q0, hargs, rfl, rfl, h0, r0⟩ := trodAll_cons hA
  obtain ⟨v1, vs1, d1, ds1, p1, q1, rfl, rfl, rfl, h1, r1⟩ := trodAll_cons r0
  obtain ⟨rfl, rfl, rfl⟩ := trodAll_nil r1
  obtain rfl : args = #[v0, v1] := by cases args; simp_all
  obtain ⟨rfl, rfl⟩ := trodVars_none hV
  have k0 := h0
  have lt0 : ∀ x ∈ p0, x.block < W.heap.size := by obtain ⟨m, hm⟩ := k0; exact DataW.trod_lt m _ _ _ hm
  obtain ⟨z0, A0, c0, l0, rfl, hz0, hc0, hm0, hf0, hr0⟩ := openArgVers (hval 0 24 v0 rfl rfl) h0
  have k1 := h1
  have lt1 : ∀ x ∈ p1, x.block < W.heap.size := by obtain ⟨m, hm⟩ := k1; exact DataW.trod_lt m _ _ _ hm
  obtain ⟨z1, A1, c1, l1, rfl, hz1, hc1, hm1, hf1, hr1⟩ := openArgWork (hval 1 27 v1 rfl rfl) h1
  clear hA0 hval0
  refine (walk z0 A0 c0 l0 z1 A1 c1 l1 W hz0 hc0 hm0 hf0 hr0 hz1 hc1 hm1 hf1 hr1).mono fun e W' ⟨he, bel⟩ => ?_
  subst he
  exact ⟨_, rfl, _, _, _, [], _, [], hW', trodAll_mk1 (shut_bool Tryz.underlying4 _), (trodAll_cons_mk (Below.trod Whole.laidOut (by kernel_rfl) (of_decide_eq_true (by kernel_rfl)) k0 bel lt0) (trodAll_cons_mk (Below.trod Whole.laidOut (by kernel_rfl) (of_decide_eq_true (by kernel_rfl)) k1 bel lt1) trodAll_mk0)), rfl, bel.frame _, fun h => by cases h⟩

theorem named : Tryz.prog.funcNamed Rows.fnExactWorkRowsRow.func = some 3 := by kernel_rfl
theorem closed : Whole.lawFacts Tryz.prog 3 Tryz.f3 Rows.fnExactWorkRowsSpec Rows.fnExactWorkRowsRow = true := by kernel_rfl
theorem inst : Tryz.f3.isInstance Tryz.prog Rows.fnExactWorkRowsRow.origin Rows.fnExactWorkRowsRow.targs := of_decide_eq_true (by kernel_rfl)
theorem wrap : Tryz.f3.isWrapper Tryz.prog Rows.fnExactWorkRowsRow.wrapper Rows.fnExactWorkRowsRow.mainSum := by
  unfold Func.isWrapper; first | (rw [if_pos (by decide +kernel)]; kernel_rfl) | (rw [if_neg (by decide +kernel)]; exact ⟨rfl, rfl⟩)
theorem over : Rows.fnExactWorkRowsRow.holds Tryz.pinned (OpenSpec.ofChange Rows.fnExactWorkRowsSpec) :=
  OpenClaim.holds_of_wide 3 Tryz.f3 rfl rfl rfl rfl rfl rfl rfl ⟨rfl, rfl, rfl, rfl, rfl⟩ rfl rfl rfl rfl rfl named Tryz.func3 (Whole.facts_of closed)
    inst wrap (fun os started H enc _ => lifted os started H enc)

theorem proved : Rows.FnExactWorkRowsSaid := over
#print axioms proved
end Go.Proofs.YtbeklnhngjmpiaaGreat.fnExactWorkRows
