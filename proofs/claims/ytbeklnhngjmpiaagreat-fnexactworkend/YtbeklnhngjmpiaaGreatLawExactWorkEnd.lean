/- For all histories and transactions of the law's own types that the law takes (a bounded size), WorkEnd of the program answers as the specification's WorkEnd, leaves its arguments as they were, answers alike a second time, and its answer owns its memory. No conditions. -/
import Derived.Test.YtbeklnhngjmpiaaGreatRows
import Derived.Test.YtbeklnhngjmpiaaGreatWhole
import Derived.Test.YtbeklnhngjmpiaaGreatA6
import Derived.Test.YtbeklnhngjmpiaaGreatArWork
import Derived.Test.YtbeklnhngjmpiaaGreatX3h
import Derived.Deep.DeepCutAuto
import Derived.WalkKit
import Derived.ProofKit
import Derived.OpenShut
import Derived.ShutString
import Derived.ChangeOld
import Derived.Below
namespace Go.Proofs.YtbeklnhngjmpiaaGreat.fnExactWorkEnd
open Go.ChangeShapes Go.WideShapes Go.ChangeAt Go.RowKit
open Go.ChangeMaps (open_string shut_string)
set_option linter.unusedVariables false

set_option maxRecDepth 100000 in
set_option maxHeartbeats 1000000 in
theorem walk (z0 : Int) (A0 : Option Addr) (c0 : Nat) (l0 : List V) (z1 : Int) (A1 : Option Addr) (c1 : Nat) (l1 : List X) (w : World) (hz0 : FitI z0) (hc0 : l0.length ≤ c0) (hm0 : c0 ≤ maxLen) (hf0 : FitVs l0) (hr0 : RdG w w.heap.size A0 l0) (hz1 : FitI z1) (hc1 : l1.length ≤ c1) (hm1 : c1 ≤ maxLen) (hf1 : FitXs l1) (hr1 : RdG w w.heap.size A1 l1) :
    Calls Tryz.prog 5 #[.agg #[.int .i64 z0, .slice A0 l0.length c0], .agg #[.int .i64 z1, .slice A1 l1.length c1]] w fun e w' => e = .returned (.bool true) ∧ Below w.heap.size w w' := by
  have htl0 := totalV_len l0
  by_cases ht0 : (totalV l0 : Int) ≤ 1048576
  rotate_left
  · have H0 := Lib.hid (szR_neg (left := 1048576) (k := totalV l0) (by omega))
    go_enter Tryz.func5, Tryz.ntmps5
    have hb_t1 := below_alloc (Below.refl _ w) (.cells #[.int .i64 z0, .slice A0 l0.length c0] 24)
    have B0_t1 := blkA w #[.int .i64 z0, .slice A0 l0.length c0] 24
    have hz_t1 : (w.alloc (.cells #[.int .i64 z0, .slice A0 l0.length c0] 24)).heap.size = w.heap.size + 1 := World.size_alloc _ _
    have hw_t2 := hb_t1
    have hs_t2 := hb_t1.size
    have hb_t3 := below_alloc (Below.refl _ (w.alloc (.cells #[.int .i64 z0, .slice A0 l0.length c0] 24))) (.cells #[.int .i64 z1, .slice A1 l1.length c1] 27)
    have B1_t3 := blkA (w.alloc (.cells #[.int .i64 z0, .slice A0 l0.length c0] 24)) #[.int .i64 z1, .slice A1 l1.length c1] 27
    simp only [World.size_alloc] at B1_t3
    have hz_t3 : ((w.alloc (.cells #[.int .i64 z0, .slice A0 l0.length c0] 24)).alloc (.cells #[.int .i64 z1, .slice A1 l1.length c1] 27)).heap.size = (w.alloc (.cells #[.int .i64 z0, .slice A0 l0.length c0] 24)).heap.size + 1 := World.size_alloc _ _
    have B0_t4 := B0_t1.next hb_t3
    clear B0_t1
    have hw_t4 := below_next hw_t2 hb_t3
    have hs_t4 := hb_t3.size
    have qB00 : ((w.alloc (.cells #[.int .i64 z0, .slice A0 l0.length c0] 24)).alloc (.cells #[.int .i64 z1, .slice A1 l1.length c1] 27)).cell? ⟨w.heap.size, 0, none⟩ = some (.int .i64 z0) := by rw [B0_t4.cell]; rfl
    have qB01 : ((w.alloc (.cells #[.int .i64 z0, .slice A0 l0.length c0] 24)).alloc (.cells #[.int .i64 z1, .slice A1 l1.length c1] 27)).cell? ⟨w.heap.size, 1, none⟩ = some (.slice A0 l0.length c0) := by rw [B0_t4.cell]; rfl
    have qB10 : ((w.alloc (.cells #[.int .i64 z0, .slice A0 l0.length c0] 24)).alloc (.cells #[.int .i64 z1, .slice A1 l1.length c1] 27)).cell? ⟨w.heap.size + 1, 0, none⟩ = some (.int .i64 z1) := by rw [B1_t3.cell]; rfl
    have qB11 : ((w.alloc (.cells #[.int .i64 z0, .slice A0 l0.length c0] 24)).alloc (.cells #[.int .i64 z1, .slice A1 l1.length c1] 27)).cell? ⟨w.heap.size + 1, 1, none⟩ = some (.slice A1 l1.length c1) := by rw [B1_t3.cell]; rfl
    go_wp2_with fail
    clear qB00 qB01 qB10 qB11
    refine (szVers_c z0 A0 c0 l0 1048576 _ hf0 hc0 hm0 (by omega) (by omega) ((hr0.below hw_t4).more hw_t4.size)).mono ?_
    rintro e w1 ⟨rfl, hb1⟩
    rw [H0.out]
    have B0_t5 := B0_t4.next hb1
    clear B0_t4
    have B1_t5 := B1_t3.next hb1
    clear B1_t3
    have hw_t5 := below_next hw_t4 hb1
    have hs_t5 := hb1.size
    go_wp2
    go_ret
    exact ⟨rfl, hw_t5⟩
  obtain ⟨L0, H0, hL0, hL0x⟩ : ∃ L : Int, Hid (szR 1048576 (totalV l0) = L) ∧ 0 ≤ L ∧ L ≤ 1048576 := ⟨_, Lib.hid rfl, by rw [szR_pos ht0]; omega, by rw [szR_pos ht0]; omega⟩
  have hlen0 : l0.length ≤ 1048576 := by omega
  clear ht0 htl0
  have htl1 := totalX_len l1
  by_cases ht1 : (totalX l1 : Int) ≤ L0
  rotate_left
  · have H1 := Lib.hid (szR_neg (left := L0) (k := totalX l1) (by omega))
    go_enter Tryz.func5, Tryz.ntmps5
    have hb_t1 := below_alloc (Below.refl _ w) (.cells #[.int .i64 z0, .slice A0 l0.length c0] 24)
    have B0_t1 := blkA w #[.int .i64 z0, .slice A0 l0.length c0] 24
    have hz_t1 : (w.alloc (.cells #[.int .i64 z0, .slice A0 l0.length c0] 24)).heap.size = w.heap.size + 1 := World.size_alloc _ _
    have hw_t2 := hb_t1
    have hs_t2 := hb_t1.size
    have hb_t3 := below_alloc (Below.refl _ (w.alloc (.cells #[.int .i64 z0, .slice A0 l0.length c0] 24))) (.cells #[.int .i64 z1, .slice A1 l1.length c1] 27)
    have B1_t3 := blkA (w.alloc (.cells #[.int .i64 z0, .slice A0 l0.length c0] 24)) #[.int .i64 z1, .slice A1 l1.length c1] 27
    simp only [World.size_alloc] at B1_t3
    have hz_t3 : ((w.alloc (.cells #[.int .i64 z0, .slice A0 l0.length c0] 24)).alloc (.cells #[.int .i64 z1, .slice A1 l1.length c1] 27)).heap.size = (w.alloc (.cells #[.int .i64 z0, .slice A0 l0.length c0] 24)).heap.size + 1 := World.size_alloc _ _
    have B0_t4 := B0_t1.next hb_t3
    clear B0_t1
    have hw_t4 := below_next hw_t2 hb_t3
    have hs_t4 := hb_t3.size
    have qB00 : ((w.alloc (.cells #[.int .i64 z0, .slice A0 l0.length c0] 24)).alloc (.cells #[.int .i64 z1, .slice A1 l1.length c1] 27)).cell? ⟨w.heap.size, 0, none⟩ = some (.int .i64 z0) := by rw [B0_t4.cell]; rfl
    have qB01 : ((w.alloc (.cells #[.int .i64 z0, .slice A0 l0.length c0] 24)).alloc (.cells #[.int .i64 z1, .slice A1 l1.length c1] 27)).cell? ⟨w.heap.size, 1, none⟩ = some (.slice A0 l0.length c0) := by rw [B0_t4.cell]; rfl
    have qB10 : ((w.alloc (.cells #[.int .i64 z0, .slice A0 l0.length c0] 24)).alloc (.cells #[.int .i64 z1, .slice A1 l1.length c1] 27)).cell? ⟨w.heap.size + 1, 0, none⟩ = some (.int .i64 z1) := by rw [B1_t3.cell]; rfl
    have qB11 : ((w.alloc (.cells #[.int .i64 z0, .slice A0 l0.length c0] 24)).alloc (.cells #[.int .i64 z1, .slice A1 l1.length c1] 27)).cell? ⟨w.heap.size + 1, 1, none⟩ = some (.slice A1 l1.length c1) := by rw [B1_t3.cell]; rfl
    go_wp2_with fail
    clear qB00 qB01 qB10 qB11
    refine (szVers_c z0 A0 c0 l0 1048576 _ hf0 hc0 hm0 (by omega) (by omega) ((hr0.below hw_t4).more hw_t4.size)).mono ?_
    rintro e w1 ⟨rfl, hb1⟩
    rw [H0.out]
    have B0_t5 := B0_t4.next hb1
    clear B0_t4
    have B1_t5 := B1_t3.next hb1
    clear B1_t3
    have hw_t5 := below_next hw_t4 hb1
    have hs_t5 := hb1.size
    have qB00 : w1.cell? ⟨w.heap.size, 0, none⟩ = some (.int .i64 z0) := by rw [B0_t5.cell]; rfl
    have qB01 : w1.cell? ⟨w.heap.size, 1, none⟩ = some (.slice A0 l0.length c0) := by rw [B0_t5.cell]; rfl
    have qB10 : w1.cell? ⟨w.heap.size + 1, 0, none⟩ = some (.int .i64 z1) := by rw [B1_t5.cell]; rfl
    have qB11 : w1.cell? ⟨w.heap.size + 1, 1, none⟩ = some (.slice A1 l1.length c1) := by rw [B1_t5.cell]; rfl
    go_wp2_with fail
    clear qB00 qB01 qB10 qB11
    refine (szWork_c z1 A1 c1 l1 L0 _ hf1 hc1 hm1 (by omega) (by omega) ((hr1.below hw_t5).more hw_t5.size)).mono ?_
    rintro e w2 ⟨rfl, hb2⟩
    rw [H1.out]
    have B0_t6 := B0_t5.next hb2
    clear B0_t5
    have B1_t6 := B1_t5.next hb2
    clear B1_t5
    have hw_t6 := below_next hw_t5 hb2
    have hs_t6 := hb2.size
    go_wp2
    go_ret
    exact ⟨rfl, hw_t6⟩
  obtain ⟨L1, H1, hL1, hL1x⟩ : ∃ L : Int, Hid (szR L0 (totalX l1) = L) ∧ 0 ≤ L ∧ L ≤ 1048576 := ⟨_, Lib.hid rfl, by rw [szR_pos ht1]; omega, by rw [szR_pos ht1]; omega⟩
  have hlen1 : l1.length ≤ 1048576 := by omega
  clear ht1 htl1
  have hvl0 : (endL z0 l0 z1 l1).length ≤ 1048577 := endL_length z0 l0 z1 l1 hlen0
  obtain ⟨vz0, HZ0⟩ : ∃ x, Hid (endZ z0 l0 z1 l1 = x) := ⟨_, Lib.hid rfl⟩
  obtain ⟨vl0, HV0⟩ : ∃ x, Hid (endL z0 l0 z1 l1 = x) := ⟨_, Lib.hid rfl⟩
  rw [HV0.out] at hvl0
  have HE0 := Lib.hid (sameB_refl vz0 vl0)
  obtain ⟨vb1, HV1⟩ : ∃ x, Hid (endC z0 l0 z1 l1 = x) := ⟨_, Lib.hid rfl⟩
  have HA0 := Lib.hid (sameB_refl z0 l0)
  have HA1 := Lib.hid (sameW_refl z1 l1)
  go_enter Tryz.func5, Tryz.ntmps5
  have hb_t1 := below_alloc (Below.refl _ w) (.cells #[.int .i64 z0, .slice A0 l0.length c0] 24)
  have B0_t1 := blkA w #[.int .i64 z0, .slice A0 l0.length c0] 24
  have hz_t1 : (w.alloc (.cells #[.int .i64 z0, .slice A0 l0.length c0] 24)).heap.size = w.heap.size + 1 := World.size_alloc _ _
  have hw_t2 := hb_t1
  have hs_t2 := hb_t1.size
  have hb_t3 := below_alloc (Below.refl _ (w.alloc (.cells #[.int .i64 z0, .slice A0 l0.length c0] 24))) (.cells #[.int .i64 z1, .slice A1 l1.length c1] 27)
  have B1_t3 := blkA (w.alloc (.cells #[.int .i64 z0, .slice A0 l0.length c0] 24)) #[.int .i64 z1, .slice A1 l1.length c1] 27
  simp only [World.size_alloc] at B1_t3
  have hz_t3 : ((w.alloc (.cells #[.int .i64 z0, .slice A0 l0.length c0] 24)).alloc (.cells #[.int .i64 z1, .slice A1 l1.length c1] 27)).heap.size = (w.alloc (.cells #[.int .i64 z0, .slice A0 l0.length c0] 24)).heap.size + 1 := World.size_alloc _ _
  have B0_t4 := B0_t1.next hb_t3
  clear B0_t1
  have hw_t4 := below_next hw_t2 hb_t3
  have hs_t4 := hb_t3.size
  have qB00 : ((w.alloc (.cells #[.int .i64 z0, .slice A0 l0.length c0] 24)).alloc (.cells #[.int .i64 z1, .slice A1 l1.length c1] 27)).cell? ⟨w.heap.size, 0, none⟩ = some (.int .i64 z0) := by rw [B0_t4.cell]; rfl
  have qB01 : ((w.alloc (.cells #[.int .i64 z0, .slice A0 l0.length c0] 24)).alloc (.cells #[.int .i64 z1, .slice A1 l1.length c1] 27)).cell? ⟨w.heap.size, 1, none⟩ = some (.slice A0 l0.length c0) := by rw [B0_t4.cell]; rfl
  have qB10 : ((w.alloc (.cells #[.int .i64 z0, .slice A0 l0.length c0] 24)).alloc (.cells #[.int .i64 z1, .slice A1 l1.length c1] 27)).cell? ⟨w.heap.size + 1, 0, none⟩ = some (.int .i64 z1) := by rw [B1_t3.cell]; rfl
  have qB11 : ((w.alloc (.cells #[.int .i64 z0, .slice A0 l0.length c0] 24)).alloc (.cells #[.int .i64 z1, .slice A1 l1.length c1] 27)).cell? ⟨w.heap.size + 1, 1, none⟩ = some (.slice A1 l1.length c1) := by rw [B1_t3.cell]; rfl
  go_wp2_with fail
  clear qB00 qB01 qB10 qB11
  refine (szVers_c z0 A0 c0 l0 1048576 _ hf0 hc0 hm0 (by omega) (by omega) ((hr0.below hw_t4).more hw_t4.size)).mono ?_
  rintro e w1 ⟨rfl, hb1⟩
  rw [H0.out]
  have B0_t5 := B0_t4.next hb1
  clear B0_t4
  have B1_t5 := B1_t3.next hb1
  clear B1_t3
  have hw_t5 := below_next hw_t4 hb1
  have hs_t5 := hb1.size
  have qB00 : w1.cell? ⟨w.heap.size, 0, none⟩ = some (.int .i64 z0) := by rw [B0_t5.cell]; rfl
  have qB01 : w1.cell? ⟨w.heap.size, 1, none⟩ = some (.slice A0 l0.length c0) := by rw [B0_t5.cell]; rfl
  have qB10 : w1.cell? ⟨w.heap.size + 1, 0, none⟩ = some (.int .i64 z1) := by rw [B1_t5.cell]; rfl
  have qB11 : w1.cell? ⟨w.heap.size + 1, 1, none⟩ = some (.slice A1 l1.length c1) := by rw [B1_t5.cell]; rfl
  go_wp2_with fail
  clear qB00 qB01 qB10 qB11
  refine (szWork_c z1 A1 c1 l1 L0 _ hf1 hc1 hm1 (by omega) (by omega) ((hr1.below hw_t5).more hw_t5.size)).mono ?_
  rintro e w2 ⟨rfl, hb2⟩
  rw [H1.out]
  have B0_t6 := B0_t5.next hb2
  clear B0_t5
  have B1_t6 := B1_t5.next hb2
  clear B1_t5
  have hw_t6 := below_next hw_t5 hb2
  have hs_t6 := hb2.size
  have qB00 : w2.cell? ⟨w.heap.size, 0, none⟩ = some (.int .i64 z0) := by rw [B0_t6.cell]; rfl
  have qB01 : w2.cell? ⟨w.heap.size, 1, none⟩ = some (.slice A0 l0.length c0) := by rw [B0_t6.cell]; rfl
  have qB10 : w2.cell? ⟨w.heap.size + 1, 0, none⟩ = some (.int .i64 z1) := by rw [B1_t6.cell]; rfl
  have qB11 : w2.cell? ⟨w.heap.size + 1, 1, none⟩ = some (.slice A1 l1.length c1) := by rw [B1_t6.cell]; rfl
  go_wp2
  clear qB00 qB01 qB10 qB11
  go_cut [6, 7] (fun p q W => ∃ (gW : Nat) (bW : Option Addr) (nW cW : Nat), p = .pointer (some ⟨gW, 0, none⟩) ∧ q = .int .i64 vb1 ∧ Blk W gW 34 #[.int .i64 vz0, .slice bW nW cW] ∧ OwnG W w2.heap.size (.slice bW nW cW) vl0 ∧ w2.heap.size ≤ gW ∧ (∀ k, (Value.slice bW nW cW).ownBlock = some k → k ≠ gW) ∧ Below w2.heap.size w2 W)
  case first =>
    have hb_t7 : Below w2.heap.size w2 w2.drew := (Below.refl _ _).drew
    have B0_t8 := B0_t6.next hb_t7
    clear B0_t6
    have B1_t8 := B1_t6.next hb_t7
    clear B1_t6
    have hw_t8 := below_next hw_t6 hb_t7
    have hs_t8 := hb_t7.size
    have hc_t7 := hb_t7
    clear hb_t7
    refine wp_region_held_drew (S := (fun W => W.cell? ⟨w.heap.size, 0, none⟩ = some (.int .i64 z0) ∧ W.cell? ⟨w.heap.size, 1, none⟩ = some (.slice A0 l0.length c0) ∧ W.cell? ⟨w.heap.size + 1, 0, none⟩ = some (.int .i64 z1) ∧ W.cell? ⟨w.heap.size + 1, 1, none⟩ = some (.slice A1 l1.length c1))) (by kernel_rfl) ?_ (fun hHeld => ?_)
    focus ((try dsimp only); (exact ⟨by rw [B0_t8.cell]; rfl, by rw [B0_t8.cell]; rfl, by rw [B1_t8.cell]; rfl, by rw [B1_t8.cell]; rfl⟩))
    obtain ⟨wd, HWD⟩ : ∃ wd, Hid (w2.drew = wd) := ⟨_, Lib.hid rfl⟩
    rw [HWD.out] at hHeld hc_t7 B0_t8 B1_t8 hw_t8
    rw [HWD.out]
    (refine tk 0 ?_; try simp only [Act.put, pa, pb, pc])
    (refine tk 2 ?_; try simp only [Act.put, pa, pb, pc])
    refine wpAnyH_ready (rs := [1, 8]) (by kernel_rfl) (by simp) (AllReadyH.cons (by (simp only [ga, gb, gc]; rfl)) (fun K hK => ?_) (AllReadyH.cons (by (simp only [ga, gb, gc]; rfl)) (fun K hK => ?_) AllReadyH.nil))
    · go_simp
      go_at_call 19
      refine (toVers_c z0 A0 c0 l0 _ hc0 hlen0 ((hr0.below hw_t8).more hw_t8.size)).mono ?_
      rintro e w3 ⟨gY0, rfl, Y0_n, ge_Y00, lt_Y00, hb3⟩
      clear ge_Y00 lt_Y00
      have B0_t9 := B0_t8.next hb3
      clear B0_t8
      have B1_t9 := B1_t8.next hb3
      clear B1_t8
      have hw_t9 := below_next hw_t8 hb3
      have hs_t9 := hb3.size
      have hcn3 := below_next hc_t7 hb3
      go_wp2_with fail
      refine hK.out _ _ ?_ (fun hHeld => ?_)
      focus ((try dsimp only); (exact ⟨by rw [B0_t9.cell]; rfl, by rw [B0_t9.cell]; rfl, by rw [B1_t9.cell]; rfl, by rw [B1_t9.cell]; rfl⟩))
      clear hK K
      try simp only [Act.put, pa, pb, pc]
      refine wpAnyH_ready (rs := [3, 8]) (by kernel_rfl) (by simp) (AllReadyH.cons (by (simp only [ga, gb, gc]; rfl)) (fun K hK => ?_) (AllReadyH.cons (by (simp only [ga, gb, gc]; rfl)) (fun K hK => ?_) AllReadyH.nil))
      · go_simp
        go_at_call 20
        refine (toWork_c z1 A1 c1 l1 _ hc1 hlen1 ((hr1.below hw_t9).more hw_t9.size)).mono ?_
        rintro e w4 ⟨gY1, rfl, Y1_n, ge_Y10, lt_Y10, hb4⟩
        clear ge_Y10 lt_Y10
        have Y0_t10 := Y0_n.next hb4
        clear Y0_n
        have B0_t10 := B0_t9.next hb4
        clear B0_t9
        have B1_t10 := B1_t9.next hb4
        clear B1_t9
        have hw_t10 := below_next hw_t9 hb4
        have hs_t10 := hb4.size
        have hcn4 := below_next hcn3 hb4
        go_wp2_with fail
        refine hK.out _ _ ?_ (fun hHeld => ?_)
        focus ((try dsimp only); (exact ⟨by rw [B0_t10.cell]; rfl, by rw [B0_t10.cell]; rfl, by rw [B1_t10.cell]; rfl, by rw [B1_t10.cell]; rfl⟩))
        clear hK K
        try simp only [Act.put, pa, pb, pc]
        refine wpAnyH_ready (rs := [4, 8]) (by kernel_rfl) (by simp) (AllReadyH.cons (by (simp only [ga, gb, gc]; rfl)) (fun K hK => ?_) (AllReadyH.cons (by (simp only [ga, gb, gc]; rfl)) (fun K hK => ?_) AllReadyH.nil))
        · go_simp
          go_at_call 34
          refine (specWorkEndO Y0_t10 Y1_n hf0 hf1 hlen0 hlen1).mono ?_
          rw [HZ0.out, HV0.out, HV1.out]
          rintro e w5 ⟨VW, rfl, W_n, hb5⟩
          obtain ⟨bW, nW, cW, rfl⟩ := W_n.slice
          clear Y0_t10
          clear Y1_n
          have B0_t11 := B0_t10.next hb5
          clear B0_t10
          have B1_t11 := B1_t10.next hb5
          clear B1_t10
          have hw_t11 := below_next hw_t10 hb5
          have hs_t11 := hb5.size
          have hcn5 := below_next hcn4 hb5
          go_wp2_with fail
          refine hK.out _ _ ?_ (fun hHeld => ?_)
          focus ((try dsimp only); (exact ⟨by rw [B0_t11.cell]; rfl, by rw [B0_t11.cell]; rfl, by rw [B1_t11.cell]; rfl, by rw [B1_t11.cell]; rfl⟩))
          clear hK K
          try simp only [Act.put, pa, pb, pc]
          (refine tk 5 ?_; try simp only [Act.put, pa, pb, pc])
          (refine tk 6 ?_; try simp only [Act.put, pa, pb, pc])
          (refine tk 7 ?_; try simp only [Act.put, pa, pb, pc])
          refine rd1 8 (fun K hK => ?_)
          go_simp
          have hbz : Below w5.heap.size w5 (w5.alloc (.cells #[.int .i64 0, .slice none 0 0] 34)) := below_alloc (Below.refl _ _) _
          have B0_z := B0_t11.next hbz
          have B1_z := B1_t11.next hbz
          refine hK.out _ _ ?_ (fun hHeld => ?_)
          focus ((try dsimp only); (exact ⟨by rw [B0_z.cell]; rfl, by rw [B0_z.cell]; rfl, by rw [B1_z.cell]; rfl, by rw [B1_z.cell]; rfl⟩))
          clear hK K
          try simp only [Act.put, pa, pb, pc]
          have By_z := blkA w5 #[.int .i64 0, .slice none 0 0] 34
          have d0 : (w5.alloc (.cells #[.int .i64 0, .slice none 0 0] 34)).cell? ⟨w5.heap.size, 0, none⟩ = some (.int .i64 0) := (by rw [By_z.cell]; rfl)
          have d1 : (w5.alloc (.cells #[.int .i64 0, .slice none 0 0] 34)).cell? ⟨w5.heap.size, 1, none⟩ = some (.slice none 0 0) := (by rw [By_z.cell]; rfl)
          have f0 := By_z.free 0
          have f1 := By_z.free 1
          have HLT : Hid (∀ k, (Value.slice bW nW cW).ownBlock = some k → k < w5.heap.size) := Lib.hid (fun k hk => (W_n.block_lt hk).2)
          have hb_t12 := below_alloc (Below.refl _ w5) (.cells #[.int .i64 vz0, .slice bW nW cW] 34)
          have By_t12 := blkA w5 #[.int .i64 vz0, .slice bW nW cW] 34
          have hz_t12 : (w5.alloc (.cells #[.int .i64 vz0, .slice bW nW cW] 34)).heap.size = w5.heap.size + 1 := World.size_alloc _ _
          have W_t13 := W_n.next hb_t12
          clear W_n
          have B0_t13 := B0_t11.next hb_t12
          clear B0_t11
          have B1_t13 := B1_t11.next hb_t12
          clear B1_t11
          have hw_t13 := below_next hw_t11 hb_t12
          have hs_t13 := hb_t12.size
          have hcL := below_alloc hcn5 (.cells #[.int .i64 vz0, .slice bW nW cW] 34)
          refine rd1 9 (fun K hK => ?_)
          go_simp
          refine hK.out _ _ ?_ (fun hHeld => ?_)
          focus ((try dsimp only); (exact ⟨by rw [B0_t13.cell]; rfl, by rw [B0_t13.cell]; rfl, by rw [B1_t13.cell]; rfl, by rw [B1_t13.cell]; rfl⟩))
          clear hK K d0 d1 f0 f1 By_z B0_z B1_z
          try simp only [Act.put, pa, pb, pc]
          (refine tk 10 ?_; try simp only [Act.put, pa, pb, pc])
          refine wpAnyH_done (by kernel_rfl) ?_ _
          go_wp2
          go_meet
          case rel => exact ⟨_, _, _, _, rfl, rfl, By_t12, W_t13.low hcn4.size, hcn5.size, (fun k hk => by have := HLT.out k hk; omega), hcL⟩
        · go_simp
          obtain ⟨yb, HYb⟩ : ∃ yb, Hid (w4.heap.size = yb) := ⟨_, Lib.hid rfl⟩
          have ne_B0 : w.heap.size < yb := by have h1 := B0_t10.lt; have h3 := HYb.out; omega
          have ne_B1 : w.heap.size + 1 < yb := by have h1 := B1_t10.lt; have h3 := HYb.out; omega
          have GG : Hid (w2.heap.size ≤ yb) := Lib.hid (by have h1 := hcn4.size; have h3 := HYb.out; omega)
          have hcz := below_alloc hcn4 (.cells #[.int .i64 0, .slice none 0 0] 34)
          have hb_t11 := below_alloc (Below.refl _ w4) (.cells #[.int .i64 0, .slice none 0 0] 34)
          have By_t11 := blkA w4 #[.int .i64 0, .slice none 0 0] 34
          have hz_t11 : (w4.alloc (.cells #[.int .i64 0, .slice none 0 0] 34)).heap.size = w4.heap.size + 1 := World.size_alloc _ _
          have Y0_t12 := Y0_t10.next hb_t11
          clear Y0_t10
          have Y1_t12 := Y1_n.next hb_t11
          clear Y1_n
          have B0_t12 := B0_t10.next hb_t11
          clear B0_t10
          have B1_t12 := B1_t10.next hb_t11
          clear B1_t10
          have hw_t12 := below_next hw_t10 hb_t11
          have hs_t12 := hb_t11.size
          refine hK.out _ _ ?_ (fun hHeld => ?_)
          focus ((try dsimp only); (exact ⟨by rw [B0_t12.cell]; rfl, by rw [B0_t12.cell]; rfl, by rw [B1_t12.cell]; rfl, by rw [B1_t12.cell]; rfl⟩))
          clear hK K
          try simp only [Act.put, pa, pb, pc]
          rw [HYb.out] at By_t11
          try rw [HYb.out]
          obtain ⟨we, HWE⟩ : ∃ we, Hid ((w4.alloc (.cells #[.int .i64 0, .slice none 0 0] 34)) = we) := ⟨_, Lib.hid rfl⟩
          rw [HWE.out] at hHeld hcz Y0_t12 Y1_t12 B0_t12 B1_t12 By_t11 hw_t12
          rw [HWE.out]
          refine rd1 4 (fun K hK => ?_)
          go_simp
          go_at_call 34
          have hgl := By_t11.lt
          refine (specWorkEndO Y0_t12 Y1_t12 hf0 hf1 hlen0 hlen1).mono ?_
          rw [HZ0.out, HV0.out, HV1.out]
          rintro e w5 ⟨VW, rfl, W_n, hb5⟩
          have HNE : Hid (∀ k, VW.ownBlock = some k → k ≠ yb) := Lib.hid (fun k hk => by have := (W_n.block_lt hk).1; omega)
          obtain ⟨bW, nW, cW, rfl⟩ := W_n.slice
          clear Y0_t12
          clear Y1_t12
          have B0_t13 := B0_t12.next hb5
          clear B0_t12
          have B1_t13 := B1_t12.next hb5
          clear B1_t12
          have By_t13 := By_t11.next hb5
          clear By_t11
          have hw_t13 := below_next hw_t12 hb5
          have hs_t13 := hb5.size
          have hcn5 := below_next hcz hb5
          go_wp2_with fail
          refine hK.out _ _ ?_ (fun hHeld => ?_)
          focus ((try dsimp only); (exact ⟨by rw [B0_t13.cell]; rfl, by rw [B0_t13.cell]; rfl, by rw [B1_t13.cell]; rfl, by rw [B1_t13.cell]; rfl⟩))
          clear hK K
          try simp only [Act.put, pa, pb, pc]
          (refine tk 5 ?_; try simp only [Act.put, pa, pb, pc])
          (refine tk 6 ?_; try simp only [Act.put, pa, pb, pc])
          (refine tk 7 ?_; try simp only [Act.put, pa, pb, pc])
          have d0 : w5.cell? ⟨yb, 0, none⟩ = some (.int .i64 0) := (by rw [By_t13.cell]; rfl)
          have d1 : w5.cell? ⟨yb, 1, none⟩ = some (.slice none 0 0) := (by rw [By_t13.cell]; rfl)
          have f0 := By_t13.free 0
          have f1 := By_t13.free 1
          have B0_s := (B0_t13.setOther (a := ⟨yb, 0, none⟩) (show w.heap.size ≠ yb from by omega) (.int .i64 vz0)).setOther (a := ⟨yb, 1, none⟩) (show w.heap.size ≠ yb from by omega) (.slice bW nW cW)
          have B1_s := (B1_t13.setOther (a := ⟨yb, 0, none⟩) (show w.heap.size + 1 ≠ yb from by omega) (.int .i64 vz0)).setOther (a := ⟨yb, 1, none⟩) (show w.heap.size + 1 ≠ yb from by omega) (.slice bW nW cW)
          have By_s := (By_t13.set_ 0 (.int .i64 vz0)).set_ 1 (.slice bW nW cW)
          have p_s := (W_n.setCell (a := ⟨yb, 0, none⟩) HNE.out (.int .i64 vz0)).setCell (a := ⟨yb, 1, none⟩) HNE.out (.slice bW nW cW)
          have hcL : Below w2.heap.size w2 ((w5.setCell ⟨yb, 0, none⟩ (.int .i64 vz0)).setCell ⟨yb, 1, none⟩ (.slice bW nW cW)) := (hcn5.setCell (show w2.heap.size ≤ yb from GG.out) _).setCell (show w2.heap.size ≤ yb from GG.out) _
          refine rd1 9 (fun K hK => ?_)
          go_simp
          refine hK.out _ _ ?_ (fun hHeld => ?_)
          focus ((try dsimp only); (exact ⟨by rw [B0_s.cell]; rfl, by rw [B0_s.cell]; rfl, by rw [B1_s.cell]; rfl, by rw [B1_s.cell]; rfl⟩))
          clear hK K d0 d1 f0 f1
          try simp only [Act.put, pa, pb, pc]
          (refine tk 10 ?_; try simp only [Act.put, pa, pb, pc])
          refine wpAnyH_done (by kernel_rfl) ?_ _
          go_wp2
          go_meet
          case rel => exact ⟨_, bW, nW, cW, rfl, rfl, By_s.cast rfl, p_s.low hcz.size, GG.out, HNE.out, hcL⟩
      · go_simp
        obtain ⟨yb, HYb⟩ : ∃ yb, Hid (w3.heap.size = yb) := ⟨_, Lib.hid rfl⟩
        have ne_B0 : w.heap.size < yb := by have h1 := B0_t9.lt; have h3 := HYb.out; omega
        have ne_B1 : w.heap.size + 1 < yb := by have h1 := B1_t9.lt; have h3 := HYb.out; omega
        have GG : Hid (w2.heap.size ≤ yb) := Lib.hid (by have h1 := hcn3.size; have h3 := HYb.out; omega)
        have hcz := below_alloc hcn3 (.cells #[.int .i64 0, .slice none 0 0] 34)
        have hb_t10 := below_alloc (Below.refl _ w3) (.cells #[.int .i64 0, .slice none 0 0] 34)
        have By_t10 := blkA w3 #[.int .i64 0, .slice none 0 0] 34
        have hz_t10 : (w3.alloc (.cells #[.int .i64 0, .slice none 0 0] 34)).heap.size = w3.heap.size + 1 := World.size_alloc _ _
        have Y0_t11 := Y0_n.next hb_t10
        clear Y0_n
        have B0_t11 := B0_t9.next hb_t10
        clear B0_t9
        have B1_t11 := B1_t9.next hb_t10
        clear B1_t9
        have hw_t11 := below_next hw_t9 hb_t10
        have hs_t11 := hb_t10.size
        refine hK.out _ _ ?_ (fun hHeld => ?_)
        focus ((try dsimp only); (exact ⟨by rw [B0_t11.cell]; rfl, by rw [B0_t11.cell]; rfl, by rw [B1_t11.cell]; rfl, by rw [B1_t11.cell]; rfl⟩))
        clear hK K
        try simp only [Act.put, pa, pb, pc]
        rw [HYb.out] at By_t10
        try rw [HYb.out]
        obtain ⟨we, HWE⟩ : ∃ we, Hid ((w3.alloc (.cells #[.int .i64 0, .slice none 0 0] 34)) = we) := ⟨_, Lib.hid rfl⟩
        rw [HWE.out] at hHeld hcz Y0_t11 B0_t11 B1_t11 By_t10 hw_t11
        rw [HWE.out]
        refine rd1 3 (fun K hK => ?_)
        go_simp
        go_at_call 20
        refine (toWork_c z1 A1 c1 l1 _ hc1 hlen1 ((hr1.below hw_t11).more hw_t11.size)).mono ?_
        rintro e w4 ⟨gY1, rfl, Y1_n, ge_Y10, lt_Y10, hb4⟩
        clear ge_Y10 lt_Y10
        have Y0_t12 := Y0_t11.next hb4
        clear Y0_t11
        have B0_t12 := B0_t11.next hb4
        clear B0_t11
        have B1_t12 := B1_t11.next hb4
        clear B1_t11
        have By_t12 := By_t10.next hb4
        clear By_t10
        have hw_t12 := below_next hw_t11 hb4
        have hs_t12 := hb4.size
        have hcn4 := below_next hcz hb4
        go_wp2_with fail
        refine hK.out _ _ ?_ (fun hHeld => ?_)
        focus ((try dsimp only); (exact ⟨by rw [B0_t12.cell]; rfl, by rw [B0_t12.cell]; rfl, by rw [B1_t12.cell]; rfl, by rw [B1_t12.cell]; rfl⟩))
        clear hK K
        try simp only [Act.put, pa, pb, pc]
        refine rd1 4 (fun K hK => ?_)
        go_simp
        go_at_call 34
        have hgl := By_t12.lt
        refine (specWorkEndO Y0_t12 Y1_n hf0 hf1 hlen0 hlen1).mono ?_
        rw [HZ0.out, HV0.out, HV1.out]
        rintro e w5 ⟨VW, rfl, W_n, hb5⟩
        have HNE : Hid (∀ k, VW.ownBlock = some k → k ≠ yb) := Lib.hid (fun k hk => by have := (W_n.block_lt hk).1; omega)
        obtain ⟨bW, nW, cW, rfl⟩ := W_n.slice
        clear Y0_t12
        clear Y1_n
        have B0_t13 := B0_t12.next hb5
        clear B0_t12
        have B1_t13 := B1_t12.next hb5
        clear B1_t12
        have By_t13 := By_t12.next hb5
        clear By_t12
        have hw_t13 := below_next hw_t12 hb5
        have hs_t13 := hb5.size
        have hcn5 := below_next hcn4 hb5
        go_wp2_with fail
        refine hK.out _ _ ?_ (fun hHeld => ?_)
        focus ((try dsimp only); (exact ⟨by rw [B0_t13.cell]; rfl, by rw [B0_t13.cell]; rfl, by rw [B1_t13.cell]; rfl, by rw [B1_t13.cell]; rfl⟩))
        clear hK K
        try simp only [Act.put, pa, pb, pc]
        (refine tk 5 ?_; try simp only [Act.put, pa, pb, pc])
        (refine tk 6 ?_; try simp only [Act.put, pa, pb, pc])
        (refine tk 7 ?_; try simp only [Act.put, pa, pb, pc])
        have d0 : w5.cell? ⟨yb, 0, none⟩ = some (.int .i64 0) := (by rw [By_t13.cell]; rfl)
        have d1 : w5.cell? ⟨yb, 1, none⟩ = some (.slice none 0 0) := (by rw [By_t13.cell]; rfl)
        have f0 := By_t13.free 0
        have f1 := By_t13.free 1
        have B0_s := (B0_t13.setOther (a := ⟨yb, 0, none⟩) (show w.heap.size ≠ yb from by omega) (.int .i64 vz0)).setOther (a := ⟨yb, 1, none⟩) (show w.heap.size ≠ yb from by omega) (.slice bW nW cW)
        have B1_s := (B1_t13.setOther (a := ⟨yb, 0, none⟩) (show w.heap.size + 1 ≠ yb from by omega) (.int .i64 vz0)).setOther (a := ⟨yb, 1, none⟩) (show w.heap.size + 1 ≠ yb from by omega) (.slice bW nW cW)
        have By_s := (By_t13.set_ 0 (.int .i64 vz0)).set_ 1 (.slice bW nW cW)
        have p_s := (W_n.setCell (a := ⟨yb, 0, none⟩) HNE.out (.int .i64 vz0)).setCell (a := ⟨yb, 1, none⟩) HNE.out (.slice bW nW cW)
        have hcL : Below w2.heap.size w2 ((w5.setCell ⟨yb, 0, none⟩ (.int .i64 vz0)).setCell ⟨yb, 1, none⟩ (.slice bW nW cW)) := (hcn5.setCell (show w2.heap.size ≤ yb from GG.out) _).setCell (show w2.heap.size ≤ yb from GG.out) _
        refine rd1 9 (fun K hK => ?_)
        go_simp
        refine hK.out _ _ ?_ (fun hHeld => ?_)
        focus ((try dsimp only); (exact ⟨by rw [B0_s.cell]; rfl, by rw [B0_s.cell]; rfl, by rw [B1_s.cell]; rfl, by rw [B1_s.cell]; rfl⟩))
        clear hK K d0 d1 f0 f1
        try simp only [Act.put, pa, pb, pc]
        (refine tk 10 ?_; try simp only [Act.put, pa, pb, pc])
        refine wpAnyH_done (by kernel_rfl) ?_ _
        go_wp2
        go_meet
        case rel => exact ⟨_, bW, nW, cW, rfl, rfl, By_s.cast rfl, p_s.low hcn4.size, GG.out, HNE.out, hcL⟩
    · go_simp
      obtain ⟨yb, HYb⟩ : ∃ yb, Hid (wd.heap.size = yb) := ⟨_, Lib.hid rfl⟩
      have ne_B0 : w.heap.size < yb := by have h1 := B0_t8.lt; have h3 := HYb.out; omega
      have ne_B1 : w.heap.size + 1 < yb := by have h1 := B1_t8.lt; have h3 := HYb.out; omega
      have GG : Hid (w2.heap.size ≤ yb) := Lib.hid (by have h1 := hc_t7.size; have h3 := HYb.out; omega)
      have hcz := below_alloc hc_t7 (.cells #[.int .i64 0, .slice none 0 0] 34)
      have hb_t9 := below_alloc (Below.refl _ wd) (.cells #[.int .i64 0, .slice none 0 0] 34)
      have By_t9 := blkA wd #[.int .i64 0, .slice none 0 0] 34
      have hz_t9 : (wd.alloc (.cells #[.int .i64 0, .slice none 0 0] 34)).heap.size = wd.heap.size + 1 := World.size_alloc _ _
      have B0_t10 := B0_t8.next hb_t9
      clear B0_t8
      have B1_t10 := B1_t8.next hb_t9
      clear B1_t8
      have hw_t10 := below_next hw_t8 hb_t9
      have hs_t10 := hb_t9.size
      refine hK.out _ _ ?_ (fun hHeld => ?_)
      focus ((try dsimp only); (exact ⟨by rw [B0_t10.cell]; rfl, by rw [B0_t10.cell]; rfl, by rw [B1_t10.cell]; rfl, by rw [B1_t10.cell]; rfl⟩))
      clear hK K
      try simp only [Act.put, pa, pb, pc]
      rw [HYb.out] at By_t9
      try rw [HYb.out]
      obtain ⟨we, HWE⟩ : ∃ we, Hid ((wd.alloc (.cells #[.int .i64 0, .slice none 0 0] 34)) = we) := ⟨_, Lib.hid rfl⟩
      rw [HWE.out] at hHeld hcz B0_t10 B1_t10 By_t9 hw_t10
      rw [HWE.out]
      refine rd1 1 (fun K hK => ?_)
      go_simp
      go_at_call 19
      refine (toVers_c z0 A0 c0 l0 _ hc0 hlen0 ((hr0.below hw_t10).more hw_t10.size)).mono ?_
      rintro e w3 ⟨gY0, rfl, Y0_n, ge_Y00, lt_Y00, hb3⟩
      clear ge_Y00 lt_Y00
      have B0_t11 := B0_t10.next hb3
      clear B0_t10
      have B1_t11 := B1_t10.next hb3
      clear B1_t10
      have By_t11 := By_t9.next hb3
      clear By_t9
      have hw_t11 := below_next hw_t10 hb3
      have hs_t11 := hb3.size
      have hcn3 := below_next hcz hb3
      go_wp2_with fail
      refine hK.out _ _ ?_ (fun hHeld => ?_)
      focus ((try dsimp only); (exact ⟨by rw [B0_t11.cell]; rfl, by rw [B0_t11.cell]; rfl, by rw [B1_t11.cell]; rfl, by rw [B1_t11.cell]; rfl⟩))
      clear hK K
      try simp only [Act.put, pa, pb, pc]
      refine rd1 3 (fun K hK => ?_)
      go_simp
      go_at_call 20
      refine (toWork_c z1 A1 c1 l1 _ hc1 hlen1 ((hr1.below hw_t11).more hw_t11.size)).mono ?_
      rintro e w4 ⟨gY1, rfl, Y1_n, ge_Y10, lt_Y10, hb4⟩
      clear ge_Y10 lt_Y10
      have Y0_t12 := Y0_n.next hb4
      clear Y0_n
      have B0_t12 := B0_t11.next hb4
      clear B0_t11
      have B1_t12 := B1_t11.next hb4
      clear B1_t11
      have By_t12 := By_t11.next hb4
      clear By_t11
      have hw_t12 := below_next hw_t11 hb4
      have hs_t12 := hb4.size
      have hcn4 := below_next hcn3 hb4
      go_wp2_with fail
      refine hK.out _ _ ?_ (fun hHeld => ?_)
      focus ((try dsimp only); (exact ⟨by rw [B0_t12.cell]; rfl, by rw [B0_t12.cell]; rfl, by rw [B1_t12.cell]; rfl, by rw [B1_t12.cell]; rfl⟩))
      clear hK K
      try simp only [Act.put, pa, pb, pc]
      refine rd1 4 (fun K hK => ?_)
      go_simp
      go_at_call 34
      have hgl := By_t12.lt
      refine (specWorkEndO Y0_t12 Y1_n hf0 hf1 hlen0 hlen1).mono ?_
      rw [HZ0.out, HV0.out, HV1.out]
      rintro e w5 ⟨VW, rfl, W_n, hb5⟩
      have HNE : Hid (∀ k, VW.ownBlock = some k → k ≠ yb) := Lib.hid (fun k hk => by have := (W_n.block_lt hk).1; omega)
      obtain ⟨bW, nW, cW, rfl⟩ := W_n.slice
      clear Y0_t12
      clear Y1_n
      have B0_t13 := B0_t12.next hb5
      clear B0_t12
      have B1_t13 := B1_t12.next hb5
      clear B1_t12
      have By_t13 := By_t12.next hb5
      clear By_t12
      have hw_t13 := below_next hw_t12 hb5
      have hs_t13 := hb5.size
      have hcn5 := below_next hcn4 hb5
      go_wp2_with fail
      refine hK.out _ _ ?_ (fun hHeld => ?_)
      focus ((try dsimp only); (exact ⟨by rw [B0_t13.cell]; rfl, by rw [B0_t13.cell]; rfl, by rw [B1_t13.cell]; rfl, by rw [B1_t13.cell]; rfl⟩))
      clear hK K
      try simp only [Act.put, pa, pb, pc]
      (refine tk 5 ?_; try simp only [Act.put, pa, pb, pc])
      (refine tk 6 ?_; try simp only [Act.put, pa, pb, pc])
      (refine tk 7 ?_; try simp only [Act.put, pa, pb, pc])
      have d0 : w5.cell? ⟨yb, 0, none⟩ = some (.int .i64 0) := (by rw [By_t13.cell]; rfl)
      have d1 : w5.cell? ⟨yb, 1, none⟩ = some (.slice none 0 0) := (by rw [By_t13.cell]; rfl)
      have f0 := By_t13.free 0
      have f1 := By_t13.free 1
      have B0_s := (B0_t13.setOther (a := ⟨yb, 0, none⟩) (show w.heap.size ≠ yb from by omega) (.int .i64 vz0)).setOther (a := ⟨yb, 1, none⟩) (show w.heap.size ≠ yb from by omega) (.slice bW nW cW)
      have B1_s := (B1_t13.setOther (a := ⟨yb, 0, none⟩) (show w.heap.size + 1 ≠ yb from by omega) (.int .i64 vz0)).setOther (a := ⟨yb, 1, none⟩) (show w.heap.size + 1 ≠ yb from by omega) (.slice bW nW cW)
      have By_s := (By_t13.set_ 0 (.int .i64 vz0)).set_ 1 (.slice bW nW cW)
      have p_s := (W_n.setCell (a := ⟨yb, 0, none⟩) HNE.out (.int .i64 vz0)).setCell (a := ⟨yb, 1, none⟩) HNE.out (.slice bW nW cW)
      have hcL : Below w2.heap.size w2 ((w5.setCell ⟨yb, 0, none⟩ (.int .i64 vz0)).setCell ⟨yb, 1, none⟩ (.slice bW nW cW)) := (hcn5.setCell (show w2.heap.size ≤ yb from GG.out) _).setCell (show w2.heap.size ≤ yb from GG.out) _
      refine rd1 9 (fun K hK => ?_)
      go_simp
      refine hK.out _ _ ?_ (fun hHeld => ?_)
      focus ((try dsimp only); (exact ⟨by rw [B0_s.cell]; rfl, by rw [B0_s.cell]; rfl, by rw [B1_s.cell]; rfl, by rw [B1_s.cell]; rfl⟩))
      clear hK K d0 d1 f0 f1
      try simp only [Act.put, pa, pb, pc]
      (refine tk 10 ?_; try simp only [Act.put, pa, pb, pc])
      refine wpAnyH_done (by kernel_rfl) ?_ _
      go_wp2
      go_meet
      case rel => exact ⟨_, bW, nW, cW, rfl, rfl, By_s.cast rfl, p_s.low hcn4.size, GG.out, HNE.out, hcL⟩
  case rest =>
    obtain ⟨gW, bW, nW, cW, rfl, rfl, Bw_c, W_n, hgg_W, hne_W, hbc_W⟩ := hcut
    obtain ⟨wcW, HWCW⟩ : ∃ x, Hid (wc = x) := ⟨_, Lib.hid rfl⟩
    rw [HWCW.out] at Bw_c W_n hbc_W
    rw [HWCW.out]
    have B0_t57 := B0_t6.next hbc_W
    clear B0_t6
    have B1_t57 := B1_t6.next hbc_W
    clear B1_t6
    have hw_t57 := below_next hw_t6 hbc_W
    have hs_t57 := hbc_W.size
    have ge_W : ∀ g, (Value.slice bW nW cW).ownBlock = some g → w2.heap.size ≤ g := fun g hg => (W_n.block_lt hg).1
    have lt_W : ∀ g, (Value.slice bW nW cW).ownBlock = some g → g < wcW.heap.size := fun g hg => (W_n.block_lt hg).2
    have hgl_W := Bw_c.lt
    have qB00 : wcW.cell? ⟨w.heap.size, 0, none⟩ = some (.int .i64 z0) := by rw [B0_t57.cell]; rfl
    have qB01 : wcW.cell? ⟨w.heap.size, 1, none⟩ = some (.slice A0 l0.length c0) := by rw [B0_t57.cell]; rfl
    have qB10 : wcW.cell? ⟨w.heap.size + 1, 0, none⟩ = some (.int .i64 z1) := by rw [B1_t57.cell]; rfl
    have qB11 : wcW.cell? ⟨w.heap.size + 1, 1, none⟩ = some (.slice A1 l1.length c1) := by rw [B1_t57.cell]; rfl
    have qBw0 : wcW.cell? ⟨gW, 0, none⟩ = some (.int .i64 vz0) := by rw [Bw_c.cell]; rfl
    have qBw1 : wcW.cell? ⟨gW, 1, none⟩ = some (.slice bW nW cW) := by rw [Bw_c.cell]; rfl
    go_wp2_with fail
    clear qB00 qB01 qB10 qB11 qBw0 qBw1
    refine (toVers_c z0 A0 c0 l0 _ hc0 hlen0 ((hr0.below hw_t57).more hw_t57.size)).mono ?_
    rintro e w23 ⟨gX0, rfl, X0_n, ge_X00, lt_X00, hb23⟩
    have W_t58 := W_n.next hb23
    clear W_n
    have B0_t58 := B0_t57.next hb23
    clear B0_t57
    have B1_t58 := B1_t57.next hb23
    clear B1_t57
    have Bw_t58 := Bw_c.next hb23
    clear Bw_c
    have hw_t58 := below_next hw_t57 hb23
    have hs_t58 := hb23.size
    have ge_X0 : ∀ g, (Value.slice (some ⟨gX0, 0, none⟩) l0.length l0.length).ownBlock = some g → (wcW).heap.size ≤ g := fun g hg => (by have : gX0 = g := Option.some.inj hg; omega)
    have lt_X0 : ∀ g, (Value.slice (some ⟨gX0, 0, none⟩) l0.length l0.length).ownBlock = some g → g < w23.heap.size := fun g hg => (by have : gX0 = g := Option.some.inj hg; omega)
    clear ge_X00 lt_X00
    have hb_t59 := below_alloc (Below.refl _ w23) (.cells #[.int .i64 z0, .slice (some ⟨gX0, 0, none⟩) l0.length l0.length] 34)
    have Bx0_t59 := blkA w23 #[.int .i64 z0, .slice (some ⟨gX0, 0, none⟩) l0.length l0.length] 34
    have hz_t59 : (w23.alloc (.cells #[.int .i64 z0, .slice (some ⟨gX0, 0, none⟩) l0.length l0.length] 34)).heap.size = w23.heap.size + 1 := World.size_alloc _ _
    have W_t60 := W_t58.next hb_t59
    clear W_t58
    have X0_t60 := X0_n.next hb_t59
    clear X0_n
    have B0_t60 := B0_t58.next hb_t59
    clear B0_t58
    have B1_t60 := B1_t58.next hb_t59
    clear B1_t58
    have Bw_t60 := Bw_t58.next hb_t59
    clear Bw_t58
    have hw_t60 := below_next hw_t58 hb_t59
    have hs_t60 := hb_t59.size
    have qB00 : (w23.alloc (.cells #[.int .i64 z0, .slice (some ⟨gX0, 0, none⟩) l0.length l0.length] 34)).cell? ⟨w.heap.size, 0, none⟩ = some (.int .i64 z0) := by rw [B0_t60.cell]; rfl
    have qB01 : (w23.alloc (.cells #[.int .i64 z0, .slice (some ⟨gX0, 0, none⟩) l0.length l0.length] 34)).cell? ⟨w.heap.size, 1, none⟩ = some (.slice A0 l0.length c0) := by rw [B0_t60.cell]; rfl
    have qB10 : (w23.alloc (.cells #[.int .i64 z0, .slice (some ⟨gX0, 0, none⟩) l0.length l0.length] 34)).cell? ⟨w.heap.size + 1, 0, none⟩ = some (.int .i64 z1) := by rw [B1_t60.cell]; rfl
    have qB11 : (w23.alloc (.cells #[.int .i64 z0, .slice (some ⟨gX0, 0, none⟩) l0.length l0.length] 34)).cell? ⟨w.heap.size + 1, 1, none⟩ = some (.slice A1 l1.length c1) := by rw [B1_t60.cell]; rfl
    have qBw0 : (w23.alloc (.cells #[.int .i64 z0, .slice (some ⟨gX0, 0, none⟩) l0.length l0.length] 34)).cell? ⟨gW, 0, none⟩ = some (.int .i64 vz0) := by rw [Bw_t60.cell]; rfl
    have qBw1 : (w23.alloc (.cells #[.int .i64 z0, .slice (some ⟨gX0, 0, none⟩) l0.length l0.length] 34)).cell? ⟨gW, 1, none⟩ = some (.slice bW nW cW) := by rw [Bw_t60.cell]; rfl
    have qBx00 : (w23.alloc (.cells #[.int .i64 z0, .slice (some ⟨gX0, 0, none⟩) l0.length l0.length] 34)).cell? ⟨w23.heap.size, 0, none⟩ = some (.int .i64 z0) := by rw [Bx0_t59.cell]; rfl
    have qBx01 : (w23.alloc (.cells #[.int .i64 z0, .slice (some ⟨gX0, 0, none⟩) l0.length l0.length] 34)).cell? ⟨w23.heap.size, 1, none⟩ = some (.slice (some ⟨gX0, 0, none⟩) l0.length l0.length) := by rw [Bx0_t59.cell]; rfl
    go_wp2_with fail
    clear qB00 qB01 qB10 qB11 qBw0 qBw1 qBx00 qBx01
    refine (toWork_c z1 A1 c1 l1 _ hc1 hlen1 ((hr1.below hw_t60).more hw_t60.size)).mono ?_
    rintro e w24 ⟨gX1, rfl, X1_n, ge_X10, lt_X10, hb24⟩
    have W_t61 := W_t60.next hb24
    clear W_t60
    have X0_t61 := X0_t60.next hb24
    clear X0_t60
    have B0_t61 := B0_t60.next hb24
    clear B0_t60
    have B1_t61 := B1_t60.next hb24
    clear B1_t60
    have Bw_t61 := Bw_t60.next hb24
    clear Bw_t60
    have Bx0_t61 := Bx0_t59.next hb24
    clear Bx0_t59
    have hw_t61 := below_next hw_t60 hb24
    have hs_t61 := hb24.size
    have ge_X1 : ∀ g, (Value.slice (some ⟨gX1, 0, none⟩) l1.length l1.length).ownBlock = some g → ((w23.alloc (.cells #[.int .i64 z0, .slice (some ⟨gX0, 0, none⟩) l0.length l0.length] 34))).heap.size ≤ g := fun g hg => (by have : gX1 = g := Option.some.inj hg; omega)
    have lt_X1 : ∀ g, (Value.slice (some ⟨gX1, 0, none⟩) l1.length l1.length).ownBlock = some g → g < w24.heap.size := fun g hg => (by have : gX1 = g := Option.some.inj hg; omega)
    clear ge_X10 lt_X10
    have hb_t62 := below_alloc (Below.refl _ w24) (.cells #[.int .i64 z1, .slice (some ⟨gX1, 0, none⟩) l1.length l1.length] 38)
    have Bx1_t62 := blkA w24 #[.int .i64 z1, .slice (some ⟨gX1, 0, none⟩) l1.length l1.length] 38
    have hz_t62 : (w24.alloc (.cells #[.int .i64 z1, .slice (some ⟨gX1, 0, none⟩) l1.length l1.length] 38)).heap.size = w24.heap.size + 1 := World.size_alloc _ _
    have W_t63 := W_t61.next hb_t62
    clear W_t61
    have X0_t63 := X0_t61.next hb_t62
    clear X0_t61
    have X1_t63 := X1_n.next hb_t62
    clear X1_n
    have B0_t63 := B0_t61.next hb_t62
    clear B0_t61
    have B1_t63 := B1_t61.next hb_t62
    clear B1_t61
    have Bw_t63 := Bw_t61.next hb_t62
    clear Bw_t61
    have Bx0_t63 := Bx0_t61.next hb_t62
    clear Bx0_t61
    have hw_t63 := below_next hw_t61 hb_t62
    have hs_t63 := hb_t62.size
    have qB00 : (w24.alloc (.cells #[.int .i64 z1, .slice (some ⟨gX1, 0, none⟩) l1.length l1.length] 38)).cell? ⟨w.heap.size, 0, none⟩ = some (.int .i64 z0) := by rw [B0_t63.cell]; rfl
    have qB01 : (w24.alloc (.cells #[.int .i64 z1, .slice (some ⟨gX1, 0, none⟩) l1.length l1.length] 38)).cell? ⟨w.heap.size, 1, none⟩ = some (.slice A0 l0.length c0) := by rw [B0_t63.cell]; rfl
    have qB10 : (w24.alloc (.cells #[.int .i64 z1, .slice (some ⟨gX1, 0, none⟩) l1.length l1.length] 38)).cell? ⟨w.heap.size + 1, 0, none⟩ = some (.int .i64 z1) := by rw [B1_t63.cell]; rfl
    have qB11 : (w24.alloc (.cells #[.int .i64 z1, .slice (some ⟨gX1, 0, none⟩) l1.length l1.length] 38)).cell? ⟨w.heap.size + 1, 1, none⟩ = some (.slice A1 l1.length c1) := by rw [B1_t63.cell]; rfl
    have qBw0 : (w24.alloc (.cells #[.int .i64 z1, .slice (some ⟨gX1, 0, none⟩) l1.length l1.length] 38)).cell? ⟨gW, 0, none⟩ = some (.int .i64 vz0) := by rw [Bw_t63.cell]; rfl
    have qBw1 : (w24.alloc (.cells #[.int .i64 z1, .slice (some ⟨gX1, 0, none⟩) l1.length l1.length] 38)).cell? ⟨gW, 1, none⟩ = some (.slice bW nW cW) := by rw [Bw_t63.cell]; rfl
    have qBx00 : (w24.alloc (.cells #[.int .i64 z1, .slice (some ⟨gX1, 0, none⟩) l1.length l1.length] 38)).cell? ⟨w23.heap.size, 0, none⟩ = some (.int .i64 z0) := by rw [Bx0_t63.cell]; rfl
    have qBx01 : (w24.alloc (.cells #[.int .i64 z1, .slice (some ⟨gX1, 0, none⟩) l1.length l1.length] 38)).cell? ⟨w23.heap.size, 1, none⟩ = some (.slice (some ⟨gX0, 0, none⟩) l0.length l0.length) := by rw [Bx0_t63.cell]; rfl
    have qBx10 : (w24.alloc (.cells #[.int .i64 z1, .slice (some ⟨gX1, 0, none⟩) l1.length l1.length] 38)).cell? ⟨w24.heap.size, 0, none⟩ = some (.int .i64 z1) := by rw [Bx1_t62.cell]; rfl
    have qBx11 : (w24.alloc (.cells #[.int .i64 z1, .slice (some ⟨gX1, 0, none⟩) l1.length l1.length] 38)).cell? ⟨w24.heap.size, 1, none⟩ = some (.slice (some ⟨gX1, 0, none⟩) l1.length l1.length) := by rw [Bx1_t62.cell]; rfl
    go_wp2_with fail
    clear qB00 qB01 qB10 qB11 qBw0 qBw1 qBx00 qBx01 qBx10 qBx11
    refine (implWorkEndO X0_t63 X1_t63 hf0 hf1 hlen0 hlen1).mono ?_
    rw [HZ0.out, HV0.out, HV1.out]
    rintro e w25 ⟨VG, rfl, G_n, hb25⟩
    obtain ⟨bG, nG, cG, rfl⟩ := G_n.slice
    have W_t64 := W_t63.next hb25
    clear W_t63
    have X0_t64 := X0_t63.next hb25
    clear X0_t63
    have X1_t64 := X1_t63.next hb25
    clear X1_t63
    have B0_t64 := B0_t63.next hb25
    clear B0_t63
    have B1_t64 := B1_t63.next hb25
    clear B1_t63
    have Bw_t64 := Bw_t63.next hb25
    clear Bw_t63
    have Bx0_t64 := Bx0_t63.next hb25
    clear Bx0_t63
    have Bx1_t64 := Bx1_t62.next hb25
    clear Bx1_t62
    have hw_t64 := below_next hw_t63 hb25
    have hs_t64 := hb25.size
    have ge_G : ∀ g, (Value.slice bG nG cG).ownBlock = some g → ((w24.alloc (.cells #[.int .i64 z1, .slice (some ⟨gX1, 0, none⟩) l1.length l1.length] 38))).heap.size ≤ g := fun g hg => (G_n.block_lt hg).1
    have lt_G : ∀ g, (Value.slice bG nG cG).ownBlock = some g → g < w25.heap.size := fun g hg => (G_n.block_lt hg).2
    have hb_t65 := below_alloc (Below.refl _ w25) (.cells #[.int .i64 vz0, .slice bG nG cG] 34)
    have Bg_t65 := blkA w25 #[.int .i64 vz0, .slice bG nG cG] 34
    have hz_t65 : (w25.alloc (.cells #[.int .i64 vz0, .slice bG nG cG] 34)).heap.size = w25.heap.size + 1 := World.size_alloc _ _
    have W_t66 := W_t64.next hb_t65
    clear W_t64
    have X0_t66 := X0_t64.next hb_t65
    clear X0_t64
    have X1_t66 := X1_t64.next hb_t65
    clear X1_t64
    have G_t66 := G_n.next hb_t65
    clear G_n
    have B0_t66 := B0_t64.next hb_t65
    clear B0_t64
    have B1_t66 := B1_t64.next hb_t65
    clear B1_t64
    have Bw_t66 := Bw_t64.next hb_t65
    clear Bw_t64
    have Bx0_t66 := Bx0_t64.next hb_t65
    clear Bx0_t64
    have Bx1_t66 := Bx1_t64.next hb_t65
    clear Bx1_t64
    have hw_t66 := below_next hw_t64 hb_t65
    have hs_t66 := hb_t65.size
    have qB00 : (w25.alloc (.cells #[.int .i64 vz0, .slice bG nG cG] 34)).cell? ⟨w.heap.size, 0, none⟩ = some (.int .i64 z0) := by rw [B0_t66.cell]; rfl
    have qB01 : (w25.alloc (.cells #[.int .i64 vz0, .slice bG nG cG] 34)).cell? ⟨w.heap.size, 1, none⟩ = some (.slice A0 l0.length c0) := by rw [B0_t66.cell]; rfl
    have qB10 : (w25.alloc (.cells #[.int .i64 vz0, .slice bG nG cG] 34)).cell? ⟨w.heap.size + 1, 0, none⟩ = some (.int .i64 z1) := by rw [B1_t66.cell]; rfl
    have qB11 : (w25.alloc (.cells #[.int .i64 vz0, .slice bG nG cG] 34)).cell? ⟨w.heap.size + 1, 1, none⟩ = some (.slice A1 l1.length c1) := by rw [B1_t66.cell]; rfl
    have qBw0 : (w25.alloc (.cells #[.int .i64 vz0, .slice bG nG cG] 34)).cell? ⟨gW, 0, none⟩ = some (.int .i64 vz0) := by rw [Bw_t66.cell]; rfl
    have qBw1 : (w25.alloc (.cells #[.int .i64 vz0, .slice bG nG cG] 34)).cell? ⟨gW, 1, none⟩ = some (.slice bW nW cW) := by rw [Bw_t66.cell]; rfl
    have qBx00 : (w25.alloc (.cells #[.int .i64 vz0, .slice bG nG cG] 34)).cell? ⟨w23.heap.size, 0, none⟩ = some (.int .i64 z0) := by rw [Bx0_t66.cell]; rfl
    have qBx01 : (w25.alloc (.cells #[.int .i64 vz0, .slice bG nG cG] 34)).cell? ⟨w23.heap.size, 1, none⟩ = some (.slice (some ⟨gX0, 0, none⟩) l0.length l0.length) := by rw [Bx0_t66.cell]; rfl
    have qBx10 : (w25.alloc (.cells #[.int .i64 vz0, .slice bG nG cG] 34)).cell? ⟨w24.heap.size, 0, none⟩ = some (.int .i64 z1) := by rw [Bx1_t66.cell]; rfl
    have qBx11 : (w25.alloc (.cells #[.int .i64 vz0, .slice bG nG cG] 34)).cell? ⟨w24.heap.size, 1, none⟩ = some (.slice (some ⟨gX1, 0, none⟩) l1.length l1.length) := by rw [Bx1_t66.cell]; rfl
    have qBg0 : (w25.alloc (.cells #[.int .i64 vz0, .slice bG nG cG] 34)).cell? ⟨w25.heap.size, 0, none⟩ = some (.int .i64 vz0) := by rw [Bg_t65.cell]; rfl
    have qBg1 : (w25.alloc (.cells #[.int .i64 vz0, .slice bG nG cG] 34)).cell? ⟨w25.heap.size, 1, none⟩ = some (.slice bG nG cG) := by rw [Bg_t65.cell]; rfl
    go_wp2_with fail
    clear qB00 qB01 qB10 qB11 qBw0 qBw1 qBx00 qBx01 qBx10 qBx11 qBg0 qBg1
    refine (eqVers_c vz0 vz0 _ _ vl0 vl0 _ _ _ G_t66 W_t66 (by omega) (by omega)).mono ?_
    rintro e w26 ⟨rfl, hb26⟩
    rw [HE0.out]
    have W_t67 := W_t66.next hb26
    clear W_t66
    have X0_t67 := X0_t66.next hb26
    clear X0_t66
    have X1_t67 := X1_t66.next hb26
    clear X1_t66
    have G_t67 := G_t66.next hb26
    clear G_t66
    have B0_t67 := B0_t66.next hb26
    clear B0_t66
    have B1_t67 := B1_t66.next hb26
    clear B1_t66
    have Bw_t67 := Bw_t66.next hb26
    clear Bw_t66
    have Bx0_t67 := Bx0_t66.next hb26
    clear Bx0_t66
    have Bx1_t67 := Bx1_t66.next hb26
    clear Bx1_t66
    have Bg_t67 := Bg_t65.next hb26
    clear Bg_t65
    have hw_t67 := below_next hw_t66 hb26
    have hs_t67 := hb26.size
    have qB00 : w26.cell? ⟨w.heap.size, 0, none⟩ = some (.int .i64 z0) := by rw [B0_t67.cell]; rfl
    have qB01 : w26.cell? ⟨w.heap.size, 1, none⟩ = some (.slice A0 l0.length c0) := by rw [B0_t67.cell]; rfl
    have qB10 : w26.cell? ⟨w.heap.size + 1, 0, none⟩ = some (.int .i64 z1) := by rw [B1_t67.cell]; rfl
    have qB11 : w26.cell? ⟨w.heap.size + 1, 1, none⟩ = some (.slice A1 l1.length c1) := by rw [B1_t67.cell]; rfl
    have qBw0 : w26.cell? ⟨gW, 0, none⟩ = some (.int .i64 vz0) := by rw [Bw_t67.cell]; rfl
    have qBw1 : w26.cell? ⟨gW, 1, none⟩ = some (.slice bW nW cW) := by rw [Bw_t67.cell]; rfl
    have qBx00 : w26.cell? ⟨w23.heap.size, 0, none⟩ = some (.int .i64 z0) := by rw [Bx0_t67.cell]; rfl
    have qBx01 : w26.cell? ⟨w23.heap.size, 1, none⟩ = some (.slice (some ⟨gX0, 0, none⟩) l0.length l0.length) := by rw [Bx0_t67.cell]; rfl
    have qBx10 : w26.cell? ⟨w24.heap.size, 0, none⟩ = some (.int .i64 z1) := by rw [Bx1_t67.cell]; rfl
    have qBx11 : w26.cell? ⟨w24.heap.size, 1, none⟩ = some (.slice (some ⟨gX1, 0, none⟩) l1.length l1.length) := by rw [Bx1_t67.cell]; rfl
    have qBg0 : w26.cell? ⟨w25.heap.size, 0, none⟩ = some (.int .i64 vz0) := by rw [Bg_t67.cell]; rfl
    have qBg1 : w26.cell? ⟨w25.heap.size, 1, none⟩ = some (.slice bG nG cG) := by rw [Bg_t67.cell]; rfl
    go_wp2
    clear qB00 qB01 qB10 qB11 qBw0 qBw1 qBx00 qBx01 qBx10 qBx11 qBg0 qBg1
    have hb_t68 : Below w26.heap.size w26 w26.drew := (Below.refl _ _).drew
    have W_t69 := W_t67.next hb_t68
    clear W_t67
    have X0_t69 := X0_t67.next hb_t68
    clear X0_t67
    have X1_t69 := X1_t67.next hb_t68
    clear X1_t67
    have G_t69 := G_t67.next hb_t68
    clear G_t67
    have B0_t69 := B0_t67.next hb_t68
    clear B0_t67
    have B1_t69 := B1_t67.next hb_t68
    clear B1_t67
    have Bw_t69 := Bw_t67.next hb_t68
    clear Bw_t67
    have Bx0_t69 := Bx0_t67.next hb_t68
    clear Bx0_t67
    have Bx1_t69 := Bx1_t67.next hb_t68
    clear Bx1_t67
    have Bg_t69 := Bg_t67.next hb_t68
    clear Bg_t67
    have hw_t69 := below_next hw_t67 hb_t68
    have hs_t69 := hb_t68.size
    refine wp_region_held_drew (S := (fun W => W.cell? ⟨w.heap.size, 0, none⟩ = some (.int .i64 z0) ∧ W.cell? ⟨w.heap.size, 1, none⟩ = some (.slice A0 l0.length c0) ∧ W.cell? ⟨w.heap.size + 1, 0, none⟩ = some (.int .i64 z1) ∧ W.cell? ⟨w.heap.size + 1, 1, none⟩ = some (.slice A1 l1.length c1) ∧ W.cell? ⟨gW, 0, none⟩ = some (.int .i64 vz0) ∧ W.cell? ⟨gW, 1, none⟩ = some (.slice bW nW cW) ∧ W.cell? ⟨w23.heap.size, 0, none⟩ = some (.int .i64 z0) ∧ W.cell? ⟨w23.heap.size, 1, none⟩ = some (.slice (some ⟨gX0, 0, none⟩) l0.length l0.length) ∧ W.cell? ⟨w24.heap.size, 0, none⟩ = some (.int .i64 z1) ∧ W.cell? ⟨w24.heap.size, 1, none⟩ = some (.slice (some ⟨gX1, 0, none⟩) l1.length l1.length) ∧ W.cell? ⟨w25.heap.size, 0, none⟩ = some (.int .i64 vz0) ∧ W.cell? ⟨w25.heap.size, 1, none⟩ = some (.slice bG nG cG))) (by kernel_rfl) ?_ (fun hHeld => ?_)
    focus ((try dsimp only); (exact ⟨by rw [B0_t69.cell]; rfl, by rw [B0_t69.cell]; rfl, by rw [B1_t69.cell]; rfl, by rw [B1_t69.cell]; rfl, by rw [Bw_t69.cell]; rfl, by rw [Bw_t69.cell]; rfl, by rw [Bx0_t69.cell]; rfl, by rw [Bx0_t69.cell]; rfl, by rw [Bx1_t69.cell]; rfl, by rw [Bx1_t69.cell]; rfl, by rw [Bg_t69.cell]; rfl, by rw [Bg_t69.cell]; rfl⟩))
    (refine tk 0 ?_; try simp only [Act.put, pa, pb, pc])
    (refine tk 1 ?_; try simp only [Act.put, pa, pb, pc])
    (refine rd1 2 (fun K hK => ?_); go_simp; (go_at_call 19; refine (toVers_c z0 A0 c0 l0 _ hc0 hlen0 ((hr0.below hw_t69).more hw_t69.size)).mono ?_; rintro e w27 ⟨gZ0, rfl, Z0_n, ge_Z00, lt_Z00, hb27⟩; have W_t70 := W_t69.next hb27; clear W_t69; have X0_t70 := X0_t69.next hb27; clear X0_t69; have X1_t70 := X1_t69.next hb27; clear X1_t69; have G_t70 := G_t69.next hb27; clear G_t69; have B0_t70 := B0_t69.next hb27; clear B0_t69; have B1_t70 := B1_t69.next hb27; clear B1_t69; have Bw_t70 := Bw_t69.next hb27; clear Bw_t69; have Bx0_t70 := Bx0_t69.next hb27; clear Bx0_t69; have Bx1_t70 := Bx1_t69.next hb27; clear Bx1_t69; have Bg_t70 := Bg_t69.next hb27; clear Bg_t69; have hw_t70 := below_next hw_t69 hb27; have hs_t70 := hb27.size; have ge_Z0 : ∀ g, (Value.slice (some ⟨gZ0, 0, none⟩) l0.length l0.length).ownBlock = some g → (w26.drew).heap.size ≤ g := fun g hg => (by have : gZ0 = g := Option.some.inj hg; omega); have lt_Z0 : ∀ g, (Value.slice (some ⟨gZ0, 0, none⟩) l0.length l0.length).ownBlock = some g → g < w27.heap.size := fun g hg => (by have : gZ0 = g := Option.some.inj hg; omega); clear ge_Z00 lt_Z00); go_wp2_with fail; refine hK.out _ _ ?_ (fun hHeld => ?_); (focus ((try dsimp only); (exact ⟨by rw [B0_t70.cell]; rfl, by rw [B0_t70.cell]; rfl, by rw [B1_t70.cell]; rfl, by rw [B1_t70.cell]; rfl, by rw [Bw_t70.cell]; rfl, by rw [Bw_t70.cell]; rfl, by rw [Bx0_t70.cell]; rfl, by rw [Bx0_t70.cell]; rfl, by rw [Bx1_t70.cell]; rfl, by rw [Bx1_t70.cell]; rfl, by rw [Bg_t70.cell]; rfl, by rw [Bg_t70.cell]; rfl⟩))); clear hK K; (try simp only [Act.put, pa, pb, pc]))
    (refine rd1 3 (fun K hK => ?_); go_simp; (go_at_call 23; refine (eqVers_c z0 z0 _ _ l0 l0 _ _ _ X0_t70 Z0_n (by omega) (by omega)).mono ?_; rintro e w28 ⟨rfl, hb28⟩; rw [HA0.out]; have W_t71 := W_t70.next hb28; clear W_t70; have X0_t71 := X0_t70.next hb28; clear X0_t70; have X1_t71 := X1_t70.next hb28; clear X1_t70; have G_t71 := G_t70.next hb28; clear G_t70; have Z0_t71 := Z0_n.next hb28; clear Z0_n; have B0_t71 := B0_t70.next hb28; clear B0_t70; have B1_t71 := B1_t70.next hb28; clear B1_t70; have Bw_t71 := Bw_t70.next hb28; clear Bw_t70; have Bx0_t71 := Bx0_t70.next hb28; clear Bx0_t70; have Bx1_t71 := Bx1_t70.next hb28; clear Bx1_t70; have Bg_t71 := Bg_t70.next hb28; clear Bg_t70; have hw_t71 := below_next hw_t70 hb28; have hs_t71 := hb28.size); go_wp2_with fail; refine hK.out _ _ ?_ (fun hHeld => ?_); (focus ((try dsimp only); (exact ⟨by rw [B0_t71.cell]; rfl, by rw [B0_t71.cell]; rfl, by rw [B1_t71.cell]; rfl, by rw [B1_t71.cell]; rfl, by rw [Bw_t71.cell]; rfl, by rw [Bw_t71.cell]; rfl, by rw [Bx0_t71.cell]; rfl, by rw [Bx0_t71.cell]; rfl, by rw [Bx1_t71.cell]; rfl, by rw [Bx1_t71.cell]; rfl, by rw [Bg_t71.cell]; rfl, by rw [Bg_t71.cell]; rfl⟩))); clear hK K; (try simp only [Act.put, pa, pb, pc]))
    (refine tk 4 ?_; try simp only [Act.put, pa, pb, pc])
    refine wpAnyH_done (by kernel_rfl) ?_ _
    clear Z0_t71
    have qB00 : w28.cell? ⟨w.heap.size, 0, none⟩ = some (.int .i64 z0) := by rw [B0_t71.cell]; rfl
    have qB01 : w28.cell? ⟨w.heap.size, 1, none⟩ = some (.slice A0 l0.length c0) := by rw [B0_t71.cell]; rfl
    have qB10 : w28.cell? ⟨w.heap.size + 1, 0, none⟩ = some (.int .i64 z1) := by rw [B1_t71.cell]; rfl
    have qB11 : w28.cell? ⟨w.heap.size + 1, 1, none⟩ = some (.slice A1 l1.length c1) := by rw [B1_t71.cell]; rfl
    have qBw0 : w28.cell? ⟨gW, 0, none⟩ = some (.int .i64 vz0) := by rw [Bw_t71.cell]; rfl
    have qBw1 : w28.cell? ⟨gW, 1, none⟩ = some (.slice bW nW cW) := by rw [Bw_t71.cell]; rfl
    have qBx00 : w28.cell? ⟨w23.heap.size, 0, none⟩ = some (.int .i64 z0) := by rw [Bx0_t71.cell]; rfl
    have qBx01 : w28.cell? ⟨w23.heap.size, 1, none⟩ = some (.slice (some ⟨gX0, 0, none⟩) l0.length l0.length) := by rw [Bx0_t71.cell]; rfl
    have qBx10 : w28.cell? ⟨w24.heap.size, 0, none⟩ = some (.int .i64 z1) := by rw [Bx1_t71.cell]; rfl
    have qBx11 : w28.cell? ⟨w24.heap.size, 1, none⟩ = some (.slice (some ⟨gX1, 0, none⟩) l1.length l1.length) := by rw [Bx1_t71.cell]; rfl
    have qBg0 : w28.cell? ⟨w25.heap.size, 0, none⟩ = some (.int .i64 vz0) := by rw [Bg_t71.cell]; rfl
    have qBg1 : w28.cell? ⟨w25.heap.size, 1, none⟩ = some (.slice bG nG cG) := by rw [Bg_t71.cell]; rfl
    go_wp2
    clear qB00 qB01 qB10 qB11 qBw0 qBw1 qBx00 qBx01 qBx10 qBx11 qBg0 qBg1
    have hb_t72 : Below w28.heap.size w28 w28.drew := (Below.refl _ _).drew
    have W_t73 := W_t71.next hb_t72
    clear W_t71
    have X0_t73 := X0_t71.next hb_t72
    clear X0_t71
    have X1_t73 := X1_t71.next hb_t72
    clear X1_t71
    have G_t73 := G_t71.next hb_t72
    clear G_t71
    have B0_t73 := B0_t71.next hb_t72
    clear B0_t71
    have B1_t73 := B1_t71.next hb_t72
    clear B1_t71
    have Bw_t73 := Bw_t71.next hb_t72
    clear Bw_t71
    have Bx0_t73 := Bx0_t71.next hb_t72
    clear Bx0_t71
    have Bx1_t73 := Bx1_t71.next hb_t72
    clear Bx1_t71
    have Bg_t73 := Bg_t71.next hb_t72
    clear Bg_t71
    have hw_t73 := below_next hw_t71 hb_t72
    have hs_t73 := hb_t72.size
    refine wp_region_held_drew (S := (fun W => W.cell? ⟨w.heap.size, 0, none⟩ = some (.int .i64 z0) ∧ W.cell? ⟨w.heap.size, 1, none⟩ = some (.slice A0 l0.length c0) ∧ W.cell? ⟨w.heap.size + 1, 0, none⟩ = some (.int .i64 z1) ∧ W.cell? ⟨w.heap.size + 1, 1, none⟩ = some (.slice A1 l1.length c1) ∧ W.cell? ⟨gW, 0, none⟩ = some (.int .i64 vz0) ∧ W.cell? ⟨gW, 1, none⟩ = some (.slice bW nW cW) ∧ W.cell? ⟨w23.heap.size, 0, none⟩ = some (.int .i64 z0) ∧ W.cell? ⟨w23.heap.size, 1, none⟩ = some (.slice (some ⟨gX0, 0, none⟩) l0.length l0.length) ∧ W.cell? ⟨w24.heap.size, 0, none⟩ = some (.int .i64 z1) ∧ W.cell? ⟨w24.heap.size, 1, none⟩ = some (.slice (some ⟨gX1, 0, none⟩) l1.length l1.length) ∧ W.cell? ⟨w25.heap.size, 0, none⟩ = some (.int .i64 vz0) ∧ W.cell? ⟨w25.heap.size, 1, none⟩ = some (.slice bG nG cG))) (by kernel_rfl) ?_ (fun hHeld => ?_)
    focus ((try dsimp only); (exact ⟨by rw [B0_t73.cell]; rfl, by rw [B0_t73.cell]; rfl, by rw [B1_t73.cell]; rfl, by rw [B1_t73.cell]; rfl, by rw [Bw_t73.cell]; rfl, by rw [Bw_t73.cell]; rfl, by rw [Bx0_t73.cell]; rfl, by rw [Bx0_t73.cell]; rfl, by rw [Bx1_t73.cell]; rfl, by rw [Bx1_t73.cell]; rfl, by rw [Bg_t73.cell]; rfl, by rw [Bg_t73.cell]; rfl⟩))
    (refine tk 0 ?_; try simp only [Act.put, pa, pb, pc])
    (refine tk 1 ?_; try simp only [Act.put, pa, pb, pc])
    (refine rd1 2 (fun K hK => ?_); go_simp; (go_at_call 20; refine (toWork_c z1 A1 c1 l1 _ hc1 hlen1 ((hr1.below hw_t73).more hw_t73.size)).mono ?_; rintro e w29 ⟨gZ1, rfl, Z1_n, ge_Z10, lt_Z10, hb29⟩; have W_t74 := W_t73.next hb29; clear W_t73; have X0_t74 := X0_t73.next hb29; clear X0_t73; have X1_t74 := X1_t73.next hb29; clear X1_t73; have G_t74 := G_t73.next hb29; clear G_t73; have B0_t74 := B0_t73.next hb29; clear B0_t73; have B1_t74 := B1_t73.next hb29; clear B1_t73; have Bw_t74 := Bw_t73.next hb29; clear Bw_t73; have Bx0_t74 := Bx0_t73.next hb29; clear Bx0_t73; have Bx1_t74 := Bx1_t73.next hb29; clear Bx1_t73; have Bg_t74 := Bg_t73.next hb29; clear Bg_t73; have hw_t74 := below_next hw_t73 hb29; have hs_t74 := hb29.size; have ge_Z1 : ∀ g, (Value.slice (some ⟨gZ1, 0, none⟩) l1.length l1.length).ownBlock = some g → (w28.drew).heap.size ≤ g := fun g hg => (by have : gZ1 = g := Option.some.inj hg; omega); have lt_Z1 : ∀ g, (Value.slice (some ⟨gZ1, 0, none⟩) l1.length l1.length).ownBlock = some g → g < w29.heap.size := fun g hg => (by have : gZ1 = g := Option.some.inj hg; omega); clear ge_Z10 lt_Z10); go_wp2_with fail; refine hK.out _ _ ?_ (fun hHeld => ?_); (focus ((try dsimp only); (exact ⟨by rw [B0_t74.cell]; rfl, by rw [B0_t74.cell]; rfl, by rw [B1_t74.cell]; rfl, by rw [B1_t74.cell]; rfl, by rw [Bw_t74.cell]; rfl, by rw [Bw_t74.cell]; rfl, by rw [Bx0_t74.cell]; rfl, by rw [Bx0_t74.cell]; rfl, by rw [Bx1_t74.cell]; rfl, by rw [Bx1_t74.cell]; rfl, by rw [Bg_t74.cell]; rfl, by rw [Bg_t74.cell]; rfl⟩))); clear hK K; (try simp only [Act.put, pa, pb, pc]))
    (refine rd1 3 (fun K hK => ?_); go_simp; (go_at_call 24; refine (eqWork_c z1 z1 _ _ l1 l1 _ _ _ X1_t74 Z1_n (by omega) (by omega)).mono ?_; rintro e w30 ⟨rfl, hb30⟩; rw [HA1.out]; have W_t75 := W_t74.next hb30; clear W_t74; have X0_t75 := X0_t74.next hb30; clear X0_t74; have X1_t75 := X1_t74.next hb30; clear X1_t74; have G_t75 := G_t74.next hb30; clear G_t74; have Z1_t75 := Z1_n.next hb30; clear Z1_n; have B0_t75 := B0_t74.next hb30; clear B0_t74; have B1_t75 := B1_t74.next hb30; clear B1_t74; have Bw_t75 := Bw_t74.next hb30; clear Bw_t74; have Bx0_t75 := Bx0_t74.next hb30; clear Bx0_t74; have Bx1_t75 := Bx1_t74.next hb30; clear Bx1_t74; have Bg_t75 := Bg_t74.next hb30; clear Bg_t74; have hw_t75 := below_next hw_t74 hb30; have hs_t75 := hb30.size); go_wp2_with fail; refine hK.out _ _ ?_ (fun hHeld => ?_); (focus ((try dsimp only); (exact ⟨by rw [B0_t75.cell]; rfl, by rw [B0_t75.cell]; rfl, by rw [B1_t75.cell]; rfl, by rw [B1_t75.cell]; rfl, by rw [Bw_t75.cell]; rfl, by rw [Bw_t75.cell]; rfl, by rw [Bx0_t75.cell]; rfl, by rw [Bx0_t75.cell]; rfl, by rw [Bx1_t75.cell]; rfl, by rw [Bx1_t75.cell]; rfl, by rw [Bg_t75.cell]; rfl, by rw [Bg_t75.cell]; rfl⟩))); clear hK K; (try simp only [Act.put, pa, pb, pc]))
    (refine tk 4 ?_; try simp only [Act.put, pa, pb, pc])
    refine wpAnyH_done (by kernel_rfl) ?_ _
    clear Z1_t75
    have qB00 : w30.cell? ⟨w.heap.size, 0, none⟩ = some (.int .i64 z0) := by rw [B0_t75.cell]; rfl
    have qB01 : w30.cell? ⟨w.heap.size, 1, none⟩ = some (.slice A0 l0.length c0) := by rw [B0_t75.cell]; rfl
    have qB10 : w30.cell? ⟨w.heap.size + 1, 0, none⟩ = some (.int .i64 z1) := by rw [B1_t75.cell]; rfl
    have qB11 : w30.cell? ⟨w.heap.size + 1, 1, none⟩ = some (.slice A1 l1.length c1) := by rw [B1_t75.cell]; rfl
    have qBw0 : w30.cell? ⟨gW, 0, none⟩ = some (.int .i64 vz0) := by rw [Bw_t75.cell]; rfl
    have qBw1 : w30.cell? ⟨gW, 1, none⟩ = some (.slice bW nW cW) := by rw [Bw_t75.cell]; rfl
    have qBx00 : w30.cell? ⟨w23.heap.size, 0, none⟩ = some (.int .i64 z0) := by rw [Bx0_t75.cell]; rfl
    have qBx01 : w30.cell? ⟨w23.heap.size, 1, none⟩ = some (.slice (some ⟨gX0, 0, none⟩) l0.length l0.length) := by rw [Bx0_t75.cell]; rfl
    have qBx10 : w30.cell? ⟨w24.heap.size, 0, none⟩ = some (.int .i64 z1) := by rw [Bx1_t75.cell]; rfl
    have qBx11 : w30.cell? ⟨w24.heap.size, 1, none⟩ = some (.slice (some ⟨gX1, 0, none⟩) l1.length l1.length) := by rw [Bx1_t75.cell]; rfl
    have qBg0 : w30.cell? ⟨w25.heap.size, 0, none⟩ = some (.int .i64 vz0) := by rw [Bg_t75.cell]; rfl
    have qBg1 : w30.cell? ⟨w25.heap.size, 1, none⟩ = some (.slice bG nG cG) := by rw [Bg_t75.cell]; rfl
    go_wp2_with fail
    clear qB00 qB01 qB10 qB11 qBw0 qBw1 qBx00 qBx01 qBx10 qBx11 qBg0 qBg1
    refine (markVers_c z0 _ l0 _ (1) _ X0_t75 (by omega) (by omega)).mono ?_
    rintro e w31 ⟨rfl, hM31, hg31⟩
    have hw_t76 : Below w.heap.size w w31 := belowGrow hw_t75 hg31 (fun k hk => by have := ge_X0 k hk; omega)
    have hs_t76 := hg31.size
    have W_t76 := W_t75.kept hg31 (fun g hg h => by have h1 := ge_X0 g h.symm; have h2 := lt_X0 g h.symm; have h3 := ge_W g hg; have h4 := lt_W g hg; omega)
    clear W_t75
    have X1_t76 := X1_t75.kept hg31 (fun g hg h => by have h1 := ge_X0 g h.symm; have h2 := lt_X0 g h.symm; have h3 := ge_X1 g hg; have h4 := lt_X1 g hg; omega)
    clear X1_t75
    have G_t76 := G_t75.kept hg31 (fun g hg h => by have h1 := ge_X0 g h.symm; have h2 := lt_X0 g h.symm; have h3 := ge_G g hg; have h4 := lt_G g hg; omega)
    clear G_t75
    have B0_t76 := B0_t75.grown hg31 (fun h => by have h1 := ge_X0 _ h.symm; have h2 := lt_X0 _ h.symm; omega)
    clear B0_t75
    have B1_t76 := B1_t75.grown hg31 (fun h => by have h1 := ge_X0 _ h.symm; have h2 := lt_X0 _ h.symm; omega)
    clear B1_t75
    have Bw_t76 := Bw_t75.grown hg31 (fun h => by have h1 := ge_X0 _ h.symm; have h2 := lt_X0 _ h.symm; omega)
    clear Bw_t75
    have Bx0_t76 := Bx0_t75.grown hg31 (fun h => by have h1 := ge_X0 _ h.symm; have h2 := lt_X0 _ h.symm; omega)
    clear Bx0_t75
    have Bx1_t76 := Bx1_t75.grown hg31 (fun h => by have h1 := ge_X0 _ h.symm; have h2 := lt_X0 _ h.symm; omega)
    clear Bx1_t75
    have Bg_t76 := Bg_t75.grown hg31 (fun h => by have h1 := ge_X0 _ h.symm; have h2 := lt_X0 _ h.symm; omega)
    clear Bg_t75
    clear X0_t75 hg31
    clear hM31
    have qB00 : w31.cell? ⟨w.heap.size, 0, none⟩ = some (.int .i64 z0) := by rw [B0_t76.cell]; rfl
    have qB01 : w31.cell? ⟨w.heap.size, 1, none⟩ = some (.slice A0 l0.length c0) := by rw [B0_t76.cell]; rfl
    have qB10 : w31.cell? ⟨w.heap.size + 1, 0, none⟩ = some (.int .i64 z1) := by rw [B1_t76.cell]; rfl
    have qB11 : w31.cell? ⟨w.heap.size + 1, 1, none⟩ = some (.slice A1 l1.length c1) := by rw [B1_t76.cell]; rfl
    have qBw0 : w31.cell? ⟨gW, 0, none⟩ = some (.int .i64 vz0) := by rw [Bw_t76.cell]; rfl
    have qBw1 : w31.cell? ⟨gW, 1, none⟩ = some (.slice bW nW cW) := by rw [Bw_t76.cell]; rfl
    have qBx00 : w31.cell? ⟨w23.heap.size, 0, none⟩ = some (.int .i64 z0) := by rw [Bx0_t76.cell]; rfl
    have qBx01 : w31.cell? ⟨w23.heap.size, 1, none⟩ = some (.slice (some ⟨gX0, 0, none⟩) l0.length l0.length) := by rw [Bx0_t76.cell]; rfl
    have qBx10 : w31.cell? ⟨w24.heap.size, 0, none⟩ = some (.int .i64 z1) := by rw [Bx1_t76.cell]; rfl
    have qBx11 : w31.cell? ⟨w24.heap.size, 1, none⟩ = some (.slice (some ⟨gX1, 0, none⟩) l1.length l1.length) := by rw [Bx1_t76.cell]; rfl
    have qBg0 : w31.cell? ⟨w25.heap.size, 0, none⟩ = some (.int .i64 vz0) := by rw [Bg_t76.cell]; rfl
    have qBg1 : w31.cell? ⟨w25.heap.size, 1, none⟩ = some (.slice bG nG cG) := by rw [Bg_t76.cell]; rfl
    go_wp2_with fail
    clear qB00 qB01 qB10 qB11 qBw0 qBw1 qBx00 qBx01 qBx10 qBx11 qBg0 qBg1
    refine (markWork_c z1 _ l1 _ (1 + 4 * l0.length) _ X1_t76 (by omega) (by omega)).mono ?_
    rintro e w32 ⟨rfl, hM32, hg32⟩
    have hw_t77 : Below w.heap.size w w32 := belowGrow hw_t76 hg32 (fun k hk => by have := ge_X1 k hk; omega)
    have hs_t77 := hg32.size
    have W_t77 := W_t76.kept hg32 (fun g hg h => by have h1 := ge_X1 g h.symm; have h2 := lt_X1 g h.symm; have h3 := ge_W g hg; have h4 := lt_W g hg; omega)
    clear W_t76
    have G_t77 := G_t76.kept hg32 (fun g hg h => by have h1 := ge_X1 g h.symm; have h2 := lt_X1 g h.symm; have h3 := ge_G g hg; have h4 := lt_G g hg; omega)
    clear G_t76
    have B0_t77 := B0_t76.grown hg32 (fun h => by have h1 := ge_X1 _ h.symm; have h2 := lt_X1 _ h.symm; omega)
    clear B0_t76
    have B1_t77 := B1_t76.grown hg32 (fun h => by have h1 := ge_X1 _ h.symm; have h2 := lt_X1 _ h.symm; omega)
    clear B1_t76
    have Bw_t77 := Bw_t76.grown hg32 (fun h => by have h1 := ge_X1 _ h.symm; have h2 := lt_X1 _ h.symm; omega)
    clear Bw_t76
    have Bx0_t77 := Bx0_t76.grown hg32 (fun h => by have h1 := ge_X1 _ h.symm; have h2 := lt_X1 _ h.symm; omega)
    clear Bx0_t76
    have Bx1_t77 := Bx1_t76.grown hg32 (fun h => by have h1 := ge_X1 _ h.symm; have h2 := lt_X1 _ h.symm; omega)
    clear Bx1_t76
    have Bg_t77 := Bg_t76.grown hg32 (fun h => by have h1 := ge_X1 _ h.symm; have h2 := lt_X1 _ h.symm; omega)
    clear Bg_t76
    clear X1_t76 hg32
    clear hM32
    have qB00 : w32.cell? ⟨w.heap.size, 0, none⟩ = some (.int .i64 z0) := by rw [B0_t77.cell]; rfl
    have qB01 : w32.cell? ⟨w.heap.size, 1, none⟩ = some (.slice A0 l0.length c0) := by rw [B0_t77.cell]; rfl
    have qB10 : w32.cell? ⟨w.heap.size + 1, 0, none⟩ = some (.int .i64 z1) := by rw [B1_t77.cell]; rfl
    have qB11 : w32.cell? ⟨w.heap.size + 1, 1, none⟩ = some (.slice A1 l1.length c1) := by rw [B1_t77.cell]; rfl
    have qBw0 : w32.cell? ⟨gW, 0, none⟩ = some (.int .i64 vz0) := by rw [Bw_t77.cell]; rfl
    have qBw1 : w32.cell? ⟨gW, 1, none⟩ = some (.slice bW nW cW) := by rw [Bw_t77.cell]; rfl
    have qBx00 : w32.cell? ⟨w23.heap.size, 0, none⟩ = some (.int .i64 z0) := by rw [Bx0_t77.cell]; rfl
    have qBx01 : w32.cell? ⟨w23.heap.size, 1, none⟩ = some (.slice (some ⟨gX0, 0, none⟩) l0.length l0.length) := by rw [Bx0_t77.cell]; rfl
    have qBx10 : w32.cell? ⟨w24.heap.size, 0, none⟩ = some (.int .i64 z1) := by rw [Bx1_t77.cell]; rfl
    have qBx11 : w32.cell? ⟨w24.heap.size, 1, none⟩ = some (.slice (some ⟨gX1, 0, none⟩) l1.length l1.length) := by rw [Bx1_t77.cell]; rfl
    have qBg0 : w32.cell? ⟨w25.heap.size, 0, none⟩ = some (.int .i64 vz0) := by rw [Bg_t77.cell]; rfl
    have qBg1 : w32.cell? ⟨w25.heap.size, 1, none⟩ = some (.slice bG nG cG) := by rw [Bg_t77.cell]; rfl
    go_wp2_with fail
    clear qB00 qB01 qB10 qB11 qBw0 qBw1 qBx00 qBx01 qBx10 qBx11 qBg0 qBg1
    refine (eqVers_c vz0 vz0 _ _ vl0 vl0 _ _ _ G_t77 W_t77 (by omega) (by omega)).mono ?_
    rintro e w33 ⟨rfl, hb33⟩
    rw [HE0.out]
    have W_t78 := W_t77.next hb33
    clear W_t77
    have G_t78 := G_t77.next hb33
    clear G_t77
    have B0_t78 := B0_t77.next hb33
    clear B0_t77
    have B1_t78 := B1_t77.next hb33
    clear B1_t77
    have Bw_t78 := Bw_t77.next hb33
    clear Bw_t77
    have Bx0_t78 := Bx0_t77.next hb33
    clear Bx0_t77
    have Bx1_t78 := Bx1_t77.next hb33
    clear Bx1_t77
    have Bg_t78 := Bg_t77.next hb33
    clear Bg_t77
    have hw_t78 := below_next hw_t77 hb33
    have hs_t78 := hb33.size
    have qB00 : w33.cell? ⟨w.heap.size, 0, none⟩ = some (.int .i64 z0) := by rw [B0_t78.cell]; rfl
    have qB01 : w33.cell? ⟨w.heap.size, 1, none⟩ = some (.slice A0 l0.length c0) := by rw [B0_t78.cell]; rfl
    have qB10 : w33.cell? ⟨w.heap.size + 1, 0, none⟩ = some (.int .i64 z1) := by rw [B1_t78.cell]; rfl
    have qB11 : w33.cell? ⟨w.heap.size + 1, 1, none⟩ = some (.slice A1 l1.length c1) := by rw [B1_t78.cell]; rfl
    have qBw0 : w33.cell? ⟨gW, 0, none⟩ = some (.int .i64 vz0) := by rw [Bw_t78.cell]; rfl
    have qBw1 : w33.cell? ⟨gW, 1, none⟩ = some (.slice bW nW cW) := by rw [Bw_t78.cell]; rfl
    have qBx00 : w33.cell? ⟨w23.heap.size, 0, none⟩ = some (.int .i64 z0) := by rw [Bx0_t78.cell]; rfl
    have qBx01 : w33.cell? ⟨w23.heap.size, 1, none⟩ = some (.slice (some ⟨gX0, 0, none⟩) l0.length l0.length) := by rw [Bx0_t78.cell]; rfl
    have qBx10 : w33.cell? ⟨w24.heap.size, 0, none⟩ = some (.int .i64 z1) := by rw [Bx1_t78.cell]; rfl
    have qBx11 : w33.cell? ⟨w24.heap.size, 1, none⟩ = some (.slice (some ⟨gX1, 0, none⟩) l1.length l1.length) := by rw [Bx1_t78.cell]; rfl
    have qBg0 : w33.cell? ⟨w25.heap.size, 0, none⟩ = some (.int .i64 vz0) := by rw [Bg_t78.cell]; rfl
    have qBg1 : w33.cell? ⟨w25.heap.size, 1, none⟩ = some (.slice bG nG cG) := by rw [Bg_t78.cell]; rfl
    go_wp2_with fail
    clear qB00 qB01 qB10 qB11 qBw0 qBw1 qBx00 qBx01 qBx10 qBx11 qBg0 qBg1
    refine (markVers_c vz0 _ vl0 _ 1 _ G_t78 (by omega) (by omega)).mono ?_
    rintro e w34 ⟨rfl, hM34, hg34⟩
    have hw_t79 : Below w.heap.size w w34 := belowGrow hw_t78 hg34 (fun k hk => by have := ge_G k hk; omega)
    have hs_t79 := hg34.size
    have W_t79 := W_t78.kept hg34 (fun g hg h => by have h1 := ge_G g h.symm; have h2 := lt_G g h.symm; have h3 := ge_W g hg; have h4 := lt_W g hg; omega)
    clear W_t78
    have B0_t79 := B0_t78.grown hg34 (fun h => by have h1 := ge_G _ h.symm; have h2 := lt_G _ h.symm; omega)
    clear B0_t78
    have B1_t79 := B1_t78.grown hg34 (fun h => by have h1 := ge_G _ h.symm; have h2 := lt_G _ h.symm; omega)
    clear B1_t78
    have Bw_t79 := Bw_t78.grown hg34 (fun h => by have h1 := ge_G _ h.symm; have h2 := lt_G _ h.symm; omega)
    clear Bw_t78
    have Bx0_t79 := Bx0_t78.grown hg34 (fun h => by have h1 := ge_G _ h.symm; have h2 := lt_G _ h.symm; omega)
    clear Bx0_t78
    have Bx1_t79 := Bx1_t78.grown hg34 (fun h => by have h1 := ge_G _ h.symm; have h2 := lt_G _ h.symm; omega)
    clear Bx1_t78
    have Bg_t79 := Bg_t78.grown hg34 (fun h => by have h1 := ge_G _ h.symm; have h2 := lt_G _ h.symm; omega)
    clear Bg_t78
    clear G_t78 hg34
    have qB00 : w34.cell? ⟨w.heap.size, 0, none⟩ = some (.int .i64 z0) := by rw [B0_t79.cell]; rfl
    have qB01 : w34.cell? ⟨w.heap.size, 1, none⟩ = some (.slice A0 l0.length c0) := by rw [B0_t79.cell]; rfl
    have qB10 : w34.cell? ⟨w.heap.size + 1, 0, none⟩ = some (.int .i64 z1) := by rw [B1_t79.cell]; rfl
    have qB11 : w34.cell? ⟨w.heap.size + 1, 1, none⟩ = some (.slice A1 l1.length c1) := by rw [B1_t79.cell]; rfl
    have qBw0 : w34.cell? ⟨gW, 0, none⟩ = some (.int .i64 vz0) := by rw [Bw_t79.cell]; rfl
    have qBw1 : w34.cell? ⟨gW, 1, none⟩ = some (.slice bW nW cW) := by rw [Bw_t79.cell]; rfl
    have qBx00 : w34.cell? ⟨w23.heap.size, 0, none⟩ = some (.int .i64 z0) := by rw [Bx0_t79.cell]; rfl
    have qBx01 : w34.cell? ⟨w23.heap.size, 1, none⟩ = some (.slice (some ⟨gX0, 0, none⟩) l0.length l0.length) := by rw [Bx0_t79.cell]; rfl
    have qBx10 : w34.cell? ⟨w24.heap.size, 0, none⟩ = some (.int .i64 z1) := by rw [Bx1_t79.cell]; rfl
    have qBx11 : w34.cell? ⟨w24.heap.size, 1, none⟩ = some (.slice (some ⟨gX1, 0, none⟩) l1.length l1.length) := by rw [Bx1_t79.cell]; rfl
    have qBg0 : w34.cell? ⟨w25.heap.size, 0, none⟩ = some (.int .i64 vz0) := by rw [Bg_t79.cell]; rfl
    have qBg1 : w34.cell? ⟨w25.heap.size, 1, none⟩ = some (.slice bG nG cG) := by rw [Bg_t79.cell]; rfl
    go_wp2_with fail
    clear qB00 qB01 qB10 qB11 qBw0 qBw1 qBx00 qBx01 qBx10 qBx11 qBg0 qBg1
    refine (heldVers_c vz0 _ vl0.length _ 1 _ hM34 (by omega) (by omega)).mono ?_
    rintro e w35 ⟨rfl, hb35⟩
    have W_t80 := W_t79.next hb35
    clear W_t79
    have G_t80 := hM34.next hb35
    clear hM34
    have B0_t80 := B0_t79.next hb35
    clear B0_t79
    have B1_t80 := B1_t79.next hb35
    clear B1_t79
    have Bw_t80 := Bw_t79.next hb35
    clear Bw_t79
    have Bx0_t80 := Bx0_t79.next hb35
    clear Bx0_t79
    have Bx1_t80 := Bx1_t79.next hb35
    clear Bx1_t79
    have Bg_t80 := Bg_t79.next hb35
    clear Bg_t79
    have hw_t80 := below_next hw_t79 hb35
    have hs_t80 := hb35.size
    have qB00 : w35.cell? ⟨w.heap.size, 0, none⟩ = some (.int .i64 z0) := by rw [B0_t80.cell]; rfl
    have qB01 : w35.cell? ⟨w.heap.size, 1, none⟩ = some (.slice A0 l0.length c0) := by rw [B0_t80.cell]; rfl
    have qB10 : w35.cell? ⟨w.heap.size + 1, 0, none⟩ = some (.int .i64 z1) := by rw [B1_t80.cell]; rfl
    have qB11 : w35.cell? ⟨w.heap.size + 1, 1, none⟩ = some (.slice A1 l1.length c1) := by rw [B1_t80.cell]; rfl
    have qBw0 : w35.cell? ⟨gW, 0, none⟩ = some (.int .i64 vz0) := by rw [Bw_t80.cell]; rfl
    have qBw1 : w35.cell? ⟨gW, 1, none⟩ = some (.slice bW nW cW) := by rw [Bw_t80.cell]; rfl
    have qBx00 : w35.cell? ⟨w23.heap.size, 0, none⟩ = some (.int .i64 z0) := by rw [Bx0_t80.cell]; rfl
    have qBx01 : w35.cell? ⟨w23.heap.size, 1, none⟩ = some (.slice (some ⟨gX0, 0, none⟩) l0.length l0.length) := by rw [Bx0_t80.cell]; rfl
    have qBx10 : w35.cell? ⟨w24.heap.size, 0, none⟩ = some (.int .i64 z1) := by rw [Bx1_t80.cell]; rfl
    have qBx11 : w35.cell? ⟨w24.heap.size, 1, none⟩ = some (.slice (some ⟨gX1, 0, none⟩) l1.length l1.length) := by rw [Bx1_t80.cell]; rfl
    have qBg0 : w35.cell? ⟨w25.heap.size, 0, none⟩ = some (.int .i64 vz0) := by rw [Bg_t80.cell]; rfl
    have qBg1 : w35.cell? ⟨w25.heap.size, 1, none⟩ = some (.slice bG nG cG) := by rw [Bg_t80.cell]; rfl
    go_wp2
    clear qB00 qB01 qB10 qB11 qBw0 qBw1 qBx00 qBx01 qBx10 qBx11 qBg0 qBg1
    go_cut [15, 16] (fun p q W => ∃ (gHh : Nat) (bHh : Option Addr) (nHh cHh : Nat), p = .pointer (some ⟨gHh, 0, none⟩) ∧ q = .int .i64 vb1 ∧ Blk W gHh 34 #[.int .i64 vz0, .slice bHh nHh cHh] ∧ OwnG W w35.heap.size (.slice bHh nHh cHh) vl0 ∧ w35.heap.size ≤ gHh ∧ (∀ k, (Value.slice bHh nHh cHh).ownBlock = some k → k ≠ gHh) ∧ Below w35.heap.size w35 W)
    case first =>
      have hb_t81 : Below w35.heap.size w35 w35.drew := (Below.refl _ _).drew
      have W_t82 := W_t80.next hb_t81
      clear W_t80
      have G_t82 := G_t80.next hb_t81
      clear G_t80
      have B0_t82 := B0_t80.next hb_t81
      clear B0_t80
      have B1_t82 := B1_t80.next hb_t81
      clear B1_t80
      have Bw_t82 := Bw_t80.next hb_t81
      clear Bw_t80
      have Bx0_t82 := Bx0_t80.next hb_t81
      clear Bx0_t80
      have Bx1_t82 := Bx1_t80.next hb_t81
      clear Bx1_t80
      have Bg_t82 := Bg_t80.next hb_t81
      clear Bg_t80
      have hw_t82 := below_next hw_t80 hb_t81
      have hs_t82 := hb_t81.size
      have hc_t81 := hb_t81
      clear hb_t81
      refine wp_region_held_drew (S := (fun W => W.cell? ⟨w.heap.size, 0, none⟩ = some (.int .i64 z0) ∧ W.cell? ⟨w.heap.size, 1, none⟩ = some (.slice A0 l0.length c0) ∧ W.cell? ⟨w.heap.size + 1, 0, none⟩ = some (.int .i64 z1) ∧ W.cell? ⟨w.heap.size + 1, 1, none⟩ = some (.slice A1 l1.length c1) ∧ W.cell? ⟨gW, 0, none⟩ = some (.int .i64 vz0) ∧ W.cell? ⟨gW, 1, none⟩ = some (.slice bW nW cW) ∧ W.cell? ⟨w23.heap.size, 0, none⟩ = some (.int .i64 z0) ∧ W.cell? ⟨w23.heap.size, 1, none⟩ = some (.slice (some ⟨gX0, 0, none⟩) l0.length l0.length) ∧ W.cell? ⟨w24.heap.size, 0, none⟩ = some (.int .i64 z1) ∧ W.cell? ⟨w24.heap.size, 1, none⟩ = some (.slice (some ⟨gX1, 0, none⟩) l1.length l1.length) ∧ W.cell? ⟨w25.heap.size, 0, none⟩ = some (.int .i64 vz0) ∧ W.cell? ⟨w25.heap.size, 1, none⟩ = some (.slice bG nG cG))) (by kernel_rfl) ?_ (fun hHeld => ?_)
      focus ((try dsimp only); (exact ⟨by rw [B0_t82.cell]; rfl, by rw [B0_t82.cell]; rfl, by rw [B1_t82.cell]; rfl, by rw [B1_t82.cell]; rfl, by rw [Bw_t82.cell]; rfl, by rw [Bw_t82.cell]; rfl, by rw [Bx0_t82.cell]; rfl, by rw [Bx0_t82.cell]; rfl, by rw [Bx1_t82.cell]; rfl, by rw [Bx1_t82.cell]; rfl, by rw [Bg_t82.cell]; rfl, by rw [Bg_t82.cell]; rfl⟩))
      obtain ⟨wd, HWD⟩ : ∃ wd, Hid (w35.drew = wd) := ⟨_, Lib.hid rfl⟩
      rw [HWD.out] at hHeld hc_t81 W_t82 G_t82 B0_t82 B1_t82 Bw_t82 Bx0_t82 Bx1_t82 Bg_t82 hw_t82
      rw [HWD.out]
      (refine tk 0 ?_; try simp only [Act.put, pa, pb, pc])
      (refine tk 2 ?_; try simp only [Act.put, pa, pb, pc])
      refine wpAnyH_ready (rs := [1, 8]) (by kernel_rfl) (by simp) (AllReadyH.cons (by (simp only [ga, gb, gc]; rfl)) (fun K hK => ?_) (AllReadyH.cons (by (simp only [ga, gb, gc]; rfl)) (fun K hK => ?_) AllReadyH.nil))
      · go_simp
        go_at_call 19
        refine (toVers_c z0 A0 c0 l0 _ hc0 hlen0 ((hr0.below hw_t82).more hw_t82.size)).mono ?_
        rintro e w36 ⟨gY0, rfl, Y0_n, ge_Y00, lt_Y00, hb36⟩
        clear ge_Y00 lt_Y00
        have W_t83 := W_t82.next hb36
        clear W_t82
        have G_t83 := G_t82.next hb36
        clear G_t82
        have B0_t83 := B0_t82.next hb36
        clear B0_t82
        have B1_t83 := B1_t82.next hb36
        clear B1_t82
        have Bw_t83 := Bw_t82.next hb36
        clear Bw_t82
        have Bx0_t83 := Bx0_t82.next hb36
        clear Bx0_t82
        have Bx1_t83 := Bx1_t82.next hb36
        clear Bx1_t82
        have Bg_t83 := Bg_t82.next hb36
        clear Bg_t82
        have hw_t83 := below_next hw_t82 hb36
        have hs_t83 := hb36.size
        have hcn36 := below_next hc_t81 hb36
        go_wp2_with fail
        refine hK.out _ _ ?_ (fun hHeld => ?_)
        focus ((try dsimp only); (exact ⟨by rw [B0_t83.cell]; rfl, by rw [B0_t83.cell]; rfl, by rw [B1_t83.cell]; rfl, by rw [B1_t83.cell]; rfl, by rw [Bw_t83.cell]; rfl, by rw [Bw_t83.cell]; rfl, by rw [Bx0_t83.cell]; rfl, by rw [Bx0_t83.cell]; rfl, by rw [Bx1_t83.cell]; rfl, by rw [Bx1_t83.cell]; rfl, by rw [Bg_t83.cell]; rfl, by rw [Bg_t83.cell]; rfl⟩))
        clear hK K
        try simp only [Act.put, pa, pb, pc]
        refine wpAnyH_ready (rs := [3, 8]) (by kernel_rfl) (by simp) (AllReadyH.cons (by (simp only [ga, gb, gc]; rfl)) (fun K hK => ?_) (AllReadyH.cons (by (simp only [ga, gb, gc]; rfl)) (fun K hK => ?_) AllReadyH.nil))
        · go_simp
          go_at_call 20
          refine (toWork_c z1 A1 c1 l1 _ hc1 hlen1 ((hr1.below hw_t83).more hw_t83.size)).mono ?_
          rintro e w37 ⟨gY1, rfl, Y1_n, ge_Y10, lt_Y10, hb37⟩
          clear ge_Y10 lt_Y10
          have W_t84 := W_t83.next hb37
          clear W_t83
          have G_t84 := G_t83.next hb37
          clear G_t83
          have Y0_t84 := Y0_n.next hb37
          clear Y0_n
          have B0_t84 := B0_t83.next hb37
          clear B0_t83
          have B1_t84 := B1_t83.next hb37
          clear B1_t83
          have Bw_t84 := Bw_t83.next hb37
          clear Bw_t83
          have Bx0_t84 := Bx0_t83.next hb37
          clear Bx0_t83
          have Bx1_t84 := Bx1_t83.next hb37
          clear Bx1_t83
          have Bg_t84 := Bg_t83.next hb37
          clear Bg_t83
          have hw_t84 := below_next hw_t83 hb37
          have hs_t84 := hb37.size
          have hcn37 := below_next hcn36 hb37
          go_wp2_with fail
          refine hK.out _ _ ?_ (fun hHeld => ?_)
          focus ((try dsimp only); (exact ⟨by rw [B0_t84.cell]; rfl, by rw [B0_t84.cell]; rfl, by rw [B1_t84.cell]; rfl, by rw [B1_t84.cell]; rfl, by rw [Bw_t84.cell]; rfl, by rw [Bw_t84.cell]; rfl, by rw [Bx0_t84.cell]; rfl, by rw [Bx0_t84.cell]; rfl, by rw [Bx1_t84.cell]; rfl, by rw [Bx1_t84.cell]; rfl, by rw [Bg_t84.cell]; rfl, by rw [Bg_t84.cell]; rfl⟩))
          clear hK K
          try simp only [Act.put, pa, pb, pc]
          refine wpAnyH_ready (rs := [4, 8]) (by kernel_rfl) (by simp) (AllReadyH.cons (by (simp only [ga, gb, gc]; rfl)) (fun K hK => ?_) (AllReadyH.cons (by (simp only [ga, gb, gc]; rfl)) (fun K hK => ?_) AllReadyH.nil))
          · go_simp
            go_at_call 35
            refine (implWorkEndO Y0_t84 Y1_n hf0 hf1 hlen0 hlen1).mono ?_
            rw [HZ0.out, HV0.out, HV1.out]
            rintro e w38 ⟨VHh, rfl, Hh_n, hb38⟩
            obtain ⟨bHh, nHh, cHh, rfl⟩ := Hh_n.slice
            clear Y0_t84
            clear Y1_n
            have W_t85 := W_t84.next hb38
            clear W_t84
            have G_t85 := G_t84.next hb38
            clear G_t84
            have B0_t85 := B0_t84.next hb38
            clear B0_t84
            have B1_t85 := B1_t84.next hb38
            clear B1_t84
            have Bw_t85 := Bw_t84.next hb38
            clear Bw_t84
            have Bx0_t85 := Bx0_t84.next hb38
            clear Bx0_t84
            have Bx1_t85 := Bx1_t84.next hb38
            clear Bx1_t84
            have Bg_t85 := Bg_t84.next hb38
            clear Bg_t84
            have hw_t85 := below_next hw_t84 hb38
            have hs_t85 := hb38.size
            have hcn38 := below_next hcn37 hb38
            go_wp2_with fail
            refine hK.out _ _ ?_ (fun hHeld => ?_)
            focus ((try dsimp only); (exact ⟨by rw [B0_t85.cell]; rfl, by rw [B0_t85.cell]; rfl, by rw [B1_t85.cell]; rfl, by rw [B1_t85.cell]; rfl, by rw [Bw_t85.cell]; rfl, by rw [Bw_t85.cell]; rfl, by rw [Bx0_t85.cell]; rfl, by rw [Bx0_t85.cell]; rfl, by rw [Bx1_t85.cell]; rfl, by rw [Bx1_t85.cell]; rfl, by rw [Bg_t85.cell]; rfl, by rw [Bg_t85.cell]; rfl⟩))
            clear hK K
            try simp only [Act.put, pa, pb, pc]
            (refine tk 5 ?_; try simp only [Act.put, pa, pb, pc])
            (refine tk 6 ?_; try simp only [Act.put, pa, pb, pc])
            (refine tk 7 ?_; try simp only [Act.put, pa, pb, pc])
            refine rd1 8 (fun K hK => ?_)
            go_simp
            have hbz : Below w38.heap.size w38 (w38.alloc (.cells #[.int .i64 0, .slice none 0 0] 34)) := below_alloc (Below.refl _ _) _
            have B0_z := B0_t85.next hbz
            have B1_z := B1_t85.next hbz
            have Bw_z := Bw_t85.next hbz
            have Bx0_z := Bx0_t85.next hbz
            have Bx1_z := Bx1_t85.next hbz
            have Bg_z := Bg_t85.next hbz
            refine hK.out _ _ ?_ (fun hHeld => ?_)
            focus ((try dsimp only); (exact ⟨by rw [B0_z.cell]; rfl, by rw [B0_z.cell]; rfl, by rw [B1_z.cell]; rfl, by rw [B1_z.cell]; rfl, by rw [Bw_z.cell]; rfl, by rw [Bw_z.cell]; rfl, by rw [Bx0_z.cell]; rfl, by rw [Bx0_z.cell]; rfl, by rw [Bx1_z.cell]; rfl, by rw [Bx1_z.cell]; rfl, by rw [Bg_z.cell]; rfl, by rw [Bg_z.cell]; rfl⟩))
            clear hK K
            try simp only [Act.put, pa, pb, pc]
            have By_z := blkA w38 #[.int .i64 0, .slice none 0 0] 34
            have d0 : (w38.alloc (.cells #[.int .i64 0, .slice none 0 0] 34)).cell? ⟨w38.heap.size, 0, none⟩ = some (.int .i64 0) := (by rw [By_z.cell]; rfl)
            have d1 : (w38.alloc (.cells #[.int .i64 0, .slice none 0 0] 34)).cell? ⟨w38.heap.size, 1, none⟩ = some (.slice none 0 0) := (by rw [By_z.cell]; rfl)
            have f0 := By_z.free 0
            have f1 := By_z.free 1
            have HLT : Hid (∀ k, (Value.slice bHh nHh cHh).ownBlock = some k → k < w38.heap.size) := Lib.hid (fun k hk => (Hh_n.block_lt hk).2)
            have hb_t86 := below_alloc (Below.refl _ w38) (.cells #[.int .i64 vz0, .slice bHh nHh cHh] 34)
            have By_t86 := blkA w38 #[.int .i64 vz0, .slice bHh nHh cHh] 34
            have hz_t86 : (w38.alloc (.cells #[.int .i64 vz0, .slice bHh nHh cHh] 34)).heap.size = w38.heap.size + 1 := World.size_alloc _ _
            have W_t87 := W_t85.next hb_t86
            clear W_t85
            have G_t87 := G_t85.next hb_t86
            clear G_t85
            have Hh_t87 := Hh_n.next hb_t86
            clear Hh_n
            have B0_t87 := B0_t85.next hb_t86
            clear B0_t85
            have B1_t87 := B1_t85.next hb_t86
            clear B1_t85
            have Bw_t87 := Bw_t85.next hb_t86
            clear Bw_t85
            have Bx0_t87 := Bx0_t85.next hb_t86
            clear Bx0_t85
            have Bx1_t87 := Bx1_t85.next hb_t86
            clear Bx1_t85
            have Bg_t87 := Bg_t85.next hb_t86
            clear Bg_t85
            have hw_t87 := below_next hw_t85 hb_t86
            have hs_t87 := hb_t86.size
            have hcL := below_alloc hcn38 (.cells #[.int .i64 vz0, .slice bHh nHh cHh] 34)
            refine rd1 9 (fun K hK => ?_)
            go_simp
            refine hK.out _ _ ?_ (fun hHeld => ?_)
            focus ((try dsimp only); (exact ⟨by rw [B0_t87.cell]; rfl, by rw [B0_t87.cell]; rfl, by rw [B1_t87.cell]; rfl, by rw [B1_t87.cell]; rfl, by rw [Bw_t87.cell]; rfl, by rw [Bw_t87.cell]; rfl, by rw [Bx0_t87.cell]; rfl, by rw [Bx0_t87.cell]; rfl, by rw [Bx1_t87.cell]; rfl, by rw [Bx1_t87.cell]; rfl, by rw [Bg_t87.cell]; rfl, by rw [Bg_t87.cell]; rfl⟩))
            clear hK K d0 d1 f0 f1 By_z B0_z B1_z Bw_z Bx0_z Bx1_z Bg_z
            try simp only [Act.put, pa, pb, pc]
            (refine tk 10 ?_; try simp only [Act.put, pa, pb, pc])
            refine wpAnyH_done (by kernel_rfl) ?_ _
            go_wp2
            go_meet
            case rel => exact ⟨_, _, _, _, rfl, rfl, By_t86, Hh_t87.low hcn37.size, hcn38.size, (fun k hk => by have := HLT.out k hk; omega), hcL⟩
          · go_simp
            obtain ⟨yb, HYb⟩ : ∃ yb, Hid (w37.heap.size = yb) := ⟨_, Lib.hid rfl⟩
            have ne_B0 : w.heap.size < yb := by have h1 := B0_t84.lt; have h3 := HYb.out; omega
            have ne_B1 : w.heap.size + 1 < yb := by have h1 := B1_t84.lt; have h3 := HYb.out; omega
            have ne_Bw : gW < yb := by have h1 := Bw_t84.lt; have h3 := HYb.out; omega
            have ne_Bx0 : w23.heap.size < yb := by have h1 := Bx0_t84.lt; have h3 := HYb.out; omega
            have ne_Bx1 : w24.heap.size < yb := by have h1 := Bx1_t84.lt; have h3 := HYb.out; omega
            have ne_Bg : w25.heap.size < yb := by have h1 := Bg_t84.lt; have h3 := HYb.out; omega
            have GG : Hid (w35.heap.size ≤ yb) := Lib.hid (by have h1 := hcn37.size; have h3 := HYb.out; omega)
            have hcz := below_alloc hcn37 (.cells #[.int .i64 0, .slice none 0 0] 34)
            have hb_t85 := below_alloc (Below.refl _ w37) (.cells #[.int .i64 0, .slice none 0 0] 34)
            have By_t85 := blkA w37 #[.int .i64 0, .slice none 0 0] 34
            have hz_t85 : (w37.alloc (.cells #[.int .i64 0, .slice none 0 0] 34)).heap.size = w37.heap.size + 1 := World.size_alloc _ _
            have W_t86 := W_t84.next hb_t85
            clear W_t84
            have G_t86 := G_t84.next hb_t85
            clear G_t84
            have Y0_t86 := Y0_t84.next hb_t85
            clear Y0_t84
            have Y1_t86 := Y1_n.next hb_t85
            clear Y1_n
            have B0_t86 := B0_t84.next hb_t85
            clear B0_t84
            have B1_t86 := B1_t84.next hb_t85
            clear B1_t84
            have Bw_t86 := Bw_t84.next hb_t85
            clear Bw_t84
            have Bx0_t86 := Bx0_t84.next hb_t85
            clear Bx0_t84
            have Bx1_t86 := Bx1_t84.next hb_t85
            clear Bx1_t84
            have Bg_t86 := Bg_t84.next hb_t85
            clear Bg_t84
            have hw_t86 := below_next hw_t84 hb_t85
            have hs_t86 := hb_t85.size
            refine hK.out _ _ ?_ (fun hHeld => ?_)
            focus ((try dsimp only); (exact ⟨by rw [B0_t86.cell]; rfl, by rw [B0_t86.cell]; rfl, by rw [B1_t86.cell]; rfl, by rw [B1_t86.cell]; rfl, by rw [Bw_t86.cell]; rfl, by rw [Bw_t86.cell]; rfl, by rw [Bx0_t86.cell]; rfl, by rw [Bx0_t86.cell]; rfl, by rw [Bx1_t86.cell]; rfl, by rw [Bx1_t86.cell]; rfl, by rw [Bg_t86.cell]; rfl, by rw [Bg_t86.cell]; rfl⟩))
            clear hK K
            try simp only [Act.put, pa, pb, pc]
            rw [HYb.out] at By_t85
            try rw [HYb.out]
            obtain ⟨we, HWE⟩ : ∃ we, Hid ((w37.alloc (.cells #[.int .i64 0, .slice none 0 0] 34)) = we) := ⟨_, Lib.hid rfl⟩
            rw [HWE.out] at hHeld hcz W_t86 G_t86 Y0_t86 Y1_t86 B0_t86 B1_t86 Bw_t86 Bx0_t86 Bx1_t86 Bg_t86 By_t85 hw_t86
            rw [HWE.out]
            refine rd1 4 (fun K hK => ?_)
            go_simp
            go_at_call 35
            have hgl := By_t85.lt
            refine (implWorkEndO Y0_t86 Y1_t86 hf0 hf1 hlen0 hlen1).mono ?_
            rw [HZ0.out, HV0.out, HV1.out]
            rintro e w38 ⟨VHh, rfl, Hh_n, hb38⟩
            have HNE : Hid (∀ k, VHh.ownBlock = some k → k ≠ yb) := Lib.hid (fun k hk => by have := (Hh_n.block_lt hk).1; omega)
            obtain ⟨bHh, nHh, cHh, rfl⟩ := Hh_n.slice
            clear Y0_t86
            clear Y1_t86
            have W_t87 := W_t86.next hb38
            clear W_t86
            have G_t87 := G_t86.next hb38
            clear G_t86
            have B0_t87 := B0_t86.next hb38
            clear B0_t86
            have B1_t87 := B1_t86.next hb38
            clear B1_t86
            have Bw_t87 := Bw_t86.next hb38
            clear Bw_t86
            have Bx0_t87 := Bx0_t86.next hb38
            clear Bx0_t86
            have Bx1_t87 := Bx1_t86.next hb38
            clear Bx1_t86
            have Bg_t87 := Bg_t86.next hb38
            clear Bg_t86
            have By_t87 := By_t85.next hb38
            clear By_t85
            have hw_t87 := below_next hw_t86 hb38
            have hs_t87 := hb38.size
            have hcn38 := below_next hcz hb38
            go_wp2_with fail
            refine hK.out _ _ ?_ (fun hHeld => ?_)
            focus ((try dsimp only); (exact ⟨by rw [B0_t87.cell]; rfl, by rw [B0_t87.cell]; rfl, by rw [B1_t87.cell]; rfl, by rw [B1_t87.cell]; rfl, by rw [Bw_t87.cell]; rfl, by rw [Bw_t87.cell]; rfl, by rw [Bx0_t87.cell]; rfl, by rw [Bx0_t87.cell]; rfl, by rw [Bx1_t87.cell]; rfl, by rw [Bx1_t87.cell]; rfl, by rw [Bg_t87.cell]; rfl, by rw [Bg_t87.cell]; rfl⟩))
            clear hK K
            try simp only [Act.put, pa, pb, pc]
            (refine tk 5 ?_; try simp only [Act.put, pa, pb, pc])
            (refine tk 6 ?_; try simp only [Act.put, pa, pb, pc])
            (refine tk 7 ?_; try simp only [Act.put, pa, pb, pc])
            have d0 : w38.cell? ⟨yb, 0, none⟩ = some (.int .i64 0) := (by rw [By_t87.cell]; rfl)
            have d1 : w38.cell? ⟨yb, 1, none⟩ = some (.slice none 0 0) := (by rw [By_t87.cell]; rfl)
            have f0 := By_t87.free 0
            have f1 := By_t87.free 1
            have B0_s := (B0_t87.setOther (a := ⟨yb, 0, none⟩) (show w.heap.size ≠ yb from by omega) (.int .i64 vz0)).setOther (a := ⟨yb, 1, none⟩) (show w.heap.size ≠ yb from by omega) (.slice bHh nHh cHh)
            have B1_s := (B1_t87.setOther (a := ⟨yb, 0, none⟩) (show w.heap.size + 1 ≠ yb from by omega) (.int .i64 vz0)).setOther (a := ⟨yb, 1, none⟩) (show w.heap.size + 1 ≠ yb from by omega) (.slice bHh nHh cHh)
            have Bw_s := (Bw_t87.setOther (a := ⟨yb, 0, none⟩) (show gW ≠ yb from by omega) (.int .i64 vz0)).setOther (a := ⟨yb, 1, none⟩) (show gW ≠ yb from by omega) (.slice bHh nHh cHh)
            have Bx0_s := (Bx0_t87.setOther (a := ⟨yb, 0, none⟩) (show w23.heap.size ≠ yb from by omega) (.int .i64 vz0)).setOther (a := ⟨yb, 1, none⟩) (show w23.heap.size ≠ yb from by omega) (.slice bHh nHh cHh)
            have Bx1_s := (Bx1_t87.setOther (a := ⟨yb, 0, none⟩) (show w24.heap.size ≠ yb from by omega) (.int .i64 vz0)).setOther (a := ⟨yb, 1, none⟩) (show w24.heap.size ≠ yb from by omega) (.slice bHh nHh cHh)
            have Bg_s := (Bg_t87.setOther (a := ⟨yb, 0, none⟩) (show w25.heap.size ≠ yb from by omega) (.int .i64 vz0)).setOther (a := ⟨yb, 1, none⟩) (show w25.heap.size ≠ yb from by omega) (.slice bHh nHh cHh)
            have By_s := (By_t87.set_ 0 (.int .i64 vz0)).set_ 1 (.slice bHh nHh cHh)
            have p_s := (Hh_n.setCell (a := ⟨yb, 0, none⟩) HNE.out (.int .i64 vz0)).setCell (a := ⟨yb, 1, none⟩) HNE.out (.slice bHh nHh cHh)
            have hcL : Below w35.heap.size w35 ((w38.setCell ⟨yb, 0, none⟩ (.int .i64 vz0)).setCell ⟨yb, 1, none⟩ (.slice bHh nHh cHh)) := (hcn38.setCell (show w35.heap.size ≤ yb from GG.out) _).setCell (show w35.heap.size ≤ yb from GG.out) _
            refine rd1 9 (fun K hK => ?_)
            go_simp
            refine hK.out _ _ ?_ (fun hHeld => ?_)
            focus ((try dsimp only); (exact ⟨by rw [B0_s.cell]; rfl, by rw [B0_s.cell]; rfl, by rw [B1_s.cell]; rfl, by rw [B1_s.cell]; rfl, by rw [Bw_s.cell]; rfl, by rw [Bw_s.cell]; rfl, by rw [Bx0_s.cell]; rfl, by rw [Bx0_s.cell]; rfl, by rw [Bx1_s.cell]; rfl, by rw [Bx1_s.cell]; rfl, by rw [Bg_s.cell]; rfl, by rw [Bg_s.cell]; rfl⟩))
            clear hK K d0 d1 f0 f1
            try simp only [Act.put, pa, pb, pc]
            (refine tk 10 ?_; try simp only [Act.put, pa, pb, pc])
            refine wpAnyH_done (by kernel_rfl) ?_ _
            go_wp2
            go_meet
            case rel => exact ⟨_, bHh, nHh, cHh, rfl, rfl, By_s.cast rfl, p_s.low hcz.size, GG.out, HNE.out, hcL⟩
        · go_simp
          obtain ⟨yb, HYb⟩ : ∃ yb, Hid (w36.heap.size = yb) := ⟨_, Lib.hid rfl⟩
          have ne_B0 : w.heap.size < yb := by have h1 := B0_t83.lt; have h3 := HYb.out; omega
          have ne_B1 : w.heap.size + 1 < yb := by have h1 := B1_t83.lt; have h3 := HYb.out; omega
          have ne_Bw : gW < yb := by have h1 := Bw_t83.lt; have h3 := HYb.out; omega
          have ne_Bx0 : w23.heap.size < yb := by have h1 := Bx0_t83.lt; have h3 := HYb.out; omega
          have ne_Bx1 : w24.heap.size < yb := by have h1 := Bx1_t83.lt; have h3 := HYb.out; omega
          have ne_Bg : w25.heap.size < yb := by have h1 := Bg_t83.lt; have h3 := HYb.out; omega
          have GG : Hid (w35.heap.size ≤ yb) := Lib.hid (by have h1 := hcn36.size; have h3 := HYb.out; omega)
          have hcz := below_alloc hcn36 (.cells #[.int .i64 0, .slice none 0 0] 34)
          have hb_t84 := below_alloc (Below.refl _ w36) (.cells #[.int .i64 0, .slice none 0 0] 34)
          have By_t84 := blkA w36 #[.int .i64 0, .slice none 0 0] 34
          have hz_t84 : (w36.alloc (.cells #[.int .i64 0, .slice none 0 0] 34)).heap.size = w36.heap.size + 1 := World.size_alloc _ _
          have W_t85 := W_t83.next hb_t84
          clear W_t83
          have G_t85 := G_t83.next hb_t84
          clear G_t83
          have Y0_t85 := Y0_n.next hb_t84
          clear Y0_n
          have B0_t85 := B0_t83.next hb_t84
          clear B0_t83
          have B1_t85 := B1_t83.next hb_t84
          clear B1_t83
          have Bw_t85 := Bw_t83.next hb_t84
          clear Bw_t83
          have Bx0_t85 := Bx0_t83.next hb_t84
          clear Bx0_t83
          have Bx1_t85 := Bx1_t83.next hb_t84
          clear Bx1_t83
          have Bg_t85 := Bg_t83.next hb_t84
          clear Bg_t83
          have hw_t85 := below_next hw_t83 hb_t84
          have hs_t85 := hb_t84.size
          refine hK.out _ _ ?_ (fun hHeld => ?_)
          focus ((try dsimp only); (exact ⟨by rw [B0_t85.cell]; rfl, by rw [B0_t85.cell]; rfl, by rw [B1_t85.cell]; rfl, by rw [B1_t85.cell]; rfl, by rw [Bw_t85.cell]; rfl, by rw [Bw_t85.cell]; rfl, by rw [Bx0_t85.cell]; rfl, by rw [Bx0_t85.cell]; rfl, by rw [Bx1_t85.cell]; rfl, by rw [Bx1_t85.cell]; rfl, by rw [Bg_t85.cell]; rfl, by rw [Bg_t85.cell]; rfl⟩))
          clear hK K
          try simp only [Act.put, pa, pb, pc]
          rw [HYb.out] at By_t84
          try rw [HYb.out]
          obtain ⟨we, HWE⟩ : ∃ we, Hid ((w36.alloc (.cells #[.int .i64 0, .slice none 0 0] 34)) = we) := ⟨_, Lib.hid rfl⟩
          rw [HWE.out] at hHeld hcz W_t85 G_t85 Y0_t85 B0_t85 B1_t85 Bw_t85 Bx0_t85 Bx1_t85 Bg_t85 By_t84 hw_t85
          rw [HWE.out]
          refine rd1 3 (fun K hK => ?_)
          go_simp
          go_at_call 20
          refine (toWork_c z1 A1 c1 l1 _ hc1 hlen1 ((hr1.below hw_t85).more hw_t85.size)).mono ?_
          rintro e w37 ⟨gY1, rfl, Y1_n, ge_Y10, lt_Y10, hb37⟩
          clear ge_Y10 lt_Y10
          have W_t86 := W_t85.next hb37
          clear W_t85
          have G_t86 := G_t85.next hb37
          clear G_t85
          have Y0_t86 := Y0_t85.next hb37
          clear Y0_t85
          have B0_t86 := B0_t85.next hb37
          clear B0_t85
          have B1_t86 := B1_t85.next hb37
          clear B1_t85
          have Bw_t86 := Bw_t85.next hb37
          clear Bw_t85
          have Bx0_t86 := Bx0_t85.next hb37
          clear Bx0_t85
          have Bx1_t86 := Bx1_t85.next hb37
          clear Bx1_t85
          have Bg_t86 := Bg_t85.next hb37
          clear Bg_t85
          have By_t86 := By_t84.next hb37
          clear By_t84
          have hw_t86 := below_next hw_t85 hb37
          have hs_t86 := hb37.size
          have hcn37 := below_next hcz hb37
          go_wp2_with fail
          refine hK.out _ _ ?_ (fun hHeld => ?_)
          focus ((try dsimp only); (exact ⟨by rw [B0_t86.cell]; rfl, by rw [B0_t86.cell]; rfl, by rw [B1_t86.cell]; rfl, by rw [B1_t86.cell]; rfl, by rw [Bw_t86.cell]; rfl, by rw [Bw_t86.cell]; rfl, by rw [Bx0_t86.cell]; rfl, by rw [Bx0_t86.cell]; rfl, by rw [Bx1_t86.cell]; rfl, by rw [Bx1_t86.cell]; rfl, by rw [Bg_t86.cell]; rfl, by rw [Bg_t86.cell]; rfl⟩))
          clear hK K
          try simp only [Act.put, pa, pb, pc]
          refine rd1 4 (fun K hK => ?_)
          go_simp
          go_at_call 35
          have hgl := By_t86.lt
          refine (implWorkEndO Y0_t86 Y1_n hf0 hf1 hlen0 hlen1).mono ?_
          rw [HZ0.out, HV0.out, HV1.out]
          rintro e w38 ⟨VHh, rfl, Hh_n, hb38⟩
          have HNE : Hid (∀ k, VHh.ownBlock = some k → k ≠ yb) := Lib.hid (fun k hk => by have := (Hh_n.block_lt hk).1; omega)
          obtain ⟨bHh, nHh, cHh, rfl⟩ := Hh_n.slice
          clear Y0_t86
          clear Y1_n
          have W_t87 := W_t86.next hb38
          clear W_t86
          have G_t87 := G_t86.next hb38
          clear G_t86
          have B0_t87 := B0_t86.next hb38
          clear B0_t86
          have B1_t87 := B1_t86.next hb38
          clear B1_t86
          have Bw_t87 := Bw_t86.next hb38
          clear Bw_t86
          have Bx0_t87 := Bx0_t86.next hb38
          clear Bx0_t86
          have Bx1_t87 := Bx1_t86.next hb38
          clear Bx1_t86
          have Bg_t87 := Bg_t86.next hb38
          clear Bg_t86
          have By_t87 := By_t86.next hb38
          clear By_t86
          have hw_t87 := below_next hw_t86 hb38
          have hs_t87 := hb38.size
          have hcn38 := below_next hcn37 hb38
          go_wp2_with fail
          refine hK.out _ _ ?_ (fun hHeld => ?_)
          focus ((try dsimp only); (exact ⟨by rw [B0_t87.cell]; rfl, by rw [B0_t87.cell]; rfl, by rw [B1_t87.cell]; rfl, by rw [B1_t87.cell]; rfl, by rw [Bw_t87.cell]; rfl, by rw [Bw_t87.cell]; rfl, by rw [Bx0_t87.cell]; rfl, by rw [Bx0_t87.cell]; rfl, by rw [Bx1_t87.cell]; rfl, by rw [Bx1_t87.cell]; rfl, by rw [Bg_t87.cell]; rfl, by rw [Bg_t87.cell]; rfl⟩))
          clear hK K
          try simp only [Act.put, pa, pb, pc]
          (refine tk 5 ?_; try simp only [Act.put, pa, pb, pc])
          (refine tk 6 ?_; try simp only [Act.put, pa, pb, pc])
          (refine tk 7 ?_; try simp only [Act.put, pa, pb, pc])
          have d0 : w38.cell? ⟨yb, 0, none⟩ = some (.int .i64 0) := (by rw [By_t87.cell]; rfl)
          have d1 : w38.cell? ⟨yb, 1, none⟩ = some (.slice none 0 0) := (by rw [By_t87.cell]; rfl)
          have f0 := By_t87.free 0
          have f1 := By_t87.free 1
          have B0_s := (B0_t87.setOther (a := ⟨yb, 0, none⟩) (show w.heap.size ≠ yb from by omega) (.int .i64 vz0)).setOther (a := ⟨yb, 1, none⟩) (show w.heap.size ≠ yb from by omega) (.slice bHh nHh cHh)
          have B1_s := (B1_t87.setOther (a := ⟨yb, 0, none⟩) (show w.heap.size + 1 ≠ yb from by omega) (.int .i64 vz0)).setOther (a := ⟨yb, 1, none⟩) (show w.heap.size + 1 ≠ yb from by omega) (.slice bHh nHh cHh)
          have Bw_s := (Bw_t87.setOther (a := ⟨yb, 0, none⟩) (show gW ≠ yb from by omega) (.int .i64 vz0)).setOther (a := ⟨yb, 1, none⟩) (show gW ≠ yb from by omega) (.slice bHh nHh cHh)
          have Bx0_s := (Bx0_t87.setOther (a := ⟨yb, 0, none⟩) (show w23.heap.size ≠ yb from by omega) (.int .i64 vz0)).setOther (a := ⟨yb, 1, none⟩) (show w23.heap.size ≠ yb from by omega) (.slice bHh nHh cHh)
          have Bx1_s := (Bx1_t87.setOther (a := ⟨yb, 0, none⟩) (show w24.heap.size ≠ yb from by omega) (.int .i64 vz0)).setOther (a := ⟨yb, 1, none⟩) (show w24.heap.size ≠ yb from by omega) (.slice bHh nHh cHh)
          have Bg_s := (Bg_t87.setOther (a := ⟨yb, 0, none⟩) (show w25.heap.size ≠ yb from by omega) (.int .i64 vz0)).setOther (a := ⟨yb, 1, none⟩) (show w25.heap.size ≠ yb from by omega) (.slice bHh nHh cHh)
          have By_s := (By_t87.set_ 0 (.int .i64 vz0)).set_ 1 (.slice bHh nHh cHh)
          have p_s := (Hh_n.setCell (a := ⟨yb, 0, none⟩) HNE.out (.int .i64 vz0)).setCell (a := ⟨yb, 1, none⟩) HNE.out (.slice bHh nHh cHh)
          have hcL : Below w35.heap.size w35 ((w38.setCell ⟨yb, 0, none⟩ (.int .i64 vz0)).setCell ⟨yb, 1, none⟩ (.slice bHh nHh cHh)) := (hcn38.setCell (show w35.heap.size ≤ yb from GG.out) _).setCell (show w35.heap.size ≤ yb from GG.out) _
          refine rd1 9 (fun K hK => ?_)
          go_simp
          refine hK.out _ _ ?_ (fun hHeld => ?_)
          focus ((try dsimp only); (exact ⟨by rw [B0_s.cell]; rfl, by rw [B0_s.cell]; rfl, by rw [B1_s.cell]; rfl, by rw [B1_s.cell]; rfl, by rw [Bw_s.cell]; rfl, by rw [Bw_s.cell]; rfl, by rw [Bx0_s.cell]; rfl, by rw [Bx0_s.cell]; rfl, by rw [Bx1_s.cell]; rfl, by rw [Bx1_s.cell]; rfl, by rw [Bg_s.cell]; rfl, by rw [Bg_s.cell]; rfl⟩))
          clear hK K d0 d1 f0 f1
          try simp only [Act.put, pa, pb, pc]
          (refine tk 10 ?_; try simp only [Act.put, pa, pb, pc])
          refine wpAnyH_done (by kernel_rfl) ?_ _
          go_wp2
          go_meet
          case rel => exact ⟨_, bHh, nHh, cHh, rfl, rfl, By_s.cast rfl, p_s.low hcn37.size, GG.out, HNE.out, hcL⟩
      · go_simp
        obtain ⟨yb, HYb⟩ : ∃ yb, Hid (wd.heap.size = yb) := ⟨_, Lib.hid rfl⟩
        have ne_B0 : w.heap.size < yb := by have h1 := B0_t82.lt; have h3 := HYb.out; omega
        have ne_B1 : w.heap.size + 1 < yb := by have h1 := B1_t82.lt; have h3 := HYb.out; omega
        have ne_Bw : gW < yb := by have h1 := Bw_t82.lt; have h3 := HYb.out; omega
        have ne_Bx0 : w23.heap.size < yb := by have h1 := Bx0_t82.lt; have h3 := HYb.out; omega
        have ne_Bx1 : w24.heap.size < yb := by have h1 := Bx1_t82.lt; have h3 := HYb.out; omega
        have ne_Bg : w25.heap.size < yb := by have h1 := Bg_t82.lt; have h3 := HYb.out; omega
        have GG : Hid (w35.heap.size ≤ yb) := Lib.hid (by have h1 := hc_t81.size; have h3 := HYb.out; omega)
        have hcz := below_alloc hc_t81 (.cells #[.int .i64 0, .slice none 0 0] 34)
        have hb_t83 := below_alloc (Below.refl _ wd) (.cells #[.int .i64 0, .slice none 0 0] 34)
        have By_t83 := blkA wd #[.int .i64 0, .slice none 0 0] 34
        have hz_t83 : (wd.alloc (.cells #[.int .i64 0, .slice none 0 0] 34)).heap.size = wd.heap.size + 1 := World.size_alloc _ _
        have W_t84 := W_t82.next hb_t83
        clear W_t82
        have G_t84 := G_t82.next hb_t83
        clear G_t82
        have B0_t84 := B0_t82.next hb_t83
        clear B0_t82
        have B1_t84 := B1_t82.next hb_t83
        clear B1_t82
        have Bw_t84 := Bw_t82.next hb_t83
        clear Bw_t82
        have Bx0_t84 := Bx0_t82.next hb_t83
        clear Bx0_t82
        have Bx1_t84 := Bx1_t82.next hb_t83
        clear Bx1_t82
        have Bg_t84 := Bg_t82.next hb_t83
        clear Bg_t82
        have hw_t84 := below_next hw_t82 hb_t83
        have hs_t84 := hb_t83.size
        refine hK.out _ _ ?_ (fun hHeld => ?_)
        focus ((try dsimp only); (exact ⟨by rw [B0_t84.cell]; rfl, by rw [B0_t84.cell]; rfl, by rw [B1_t84.cell]; rfl, by rw [B1_t84.cell]; rfl, by rw [Bw_t84.cell]; rfl, by rw [Bw_t84.cell]; rfl, by rw [Bx0_t84.cell]; rfl, by rw [Bx0_t84.cell]; rfl, by rw [Bx1_t84.cell]; rfl, by rw [Bx1_t84.cell]; rfl, by rw [Bg_t84.cell]; rfl, by rw [Bg_t84.cell]; rfl⟩))
        clear hK K
        try simp only [Act.put, pa, pb, pc]
        rw [HYb.out] at By_t83
        try rw [HYb.out]
        obtain ⟨we, HWE⟩ : ∃ we, Hid ((wd.alloc (.cells #[.int .i64 0, .slice none 0 0] 34)) = we) := ⟨_, Lib.hid rfl⟩
        rw [HWE.out] at hHeld hcz W_t84 G_t84 B0_t84 B1_t84 Bw_t84 Bx0_t84 Bx1_t84 Bg_t84 By_t83 hw_t84
        rw [HWE.out]
        refine rd1 1 (fun K hK => ?_)
        go_simp
        go_at_call 19
        refine (toVers_c z0 A0 c0 l0 _ hc0 hlen0 ((hr0.below hw_t84).more hw_t84.size)).mono ?_
        rintro e w36 ⟨gY0, rfl, Y0_n, ge_Y00, lt_Y00, hb36⟩
        clear ge_Y00 lt_Y00
        have W_t85 := W_t84.next hb36
        clear W_t84
        have G_t85 := G_t84.next hb36
        clear G_t84
        have B0_t85 := B0_t84.next hb36
        clear B0_t84
        have B1_t85 := B1_t84.next hb36
        clear B1_t84
        have Bw_t85 := Bw_t84.next hb36
        clear Bw_t84
        have Bx0_t85 := Bx0_t84.next hb36
        clear Bx0_t84
        have Bx1_t85 := Bx1_t84.next hb36
        clear Bx1_t84
        have Bg_t85 := Bg_t84.next hb36
        clear Bg_t84
        have By_t85 := By_t83.next hb36
        clear By_t83
        have hw_t85 := below_next hw_t84 hb36
        have hs_t85 := hb36.size
        have hcn36 := below_next hcz hb36
        go_wp2_with fail
        refine hK.out _ _ ?_ (fun hHeld => ?_)
        focus ((try dsimp only); (exact ⟨by rw [B0_t85.cell]; rfl, by rw [B0_t85.cell]; rfl, by rw [B1_t85.cell]; rfl, by rw [B1_t85.cell]; rfl, by rw [Bw_t85.cell]; rfl, by rw [Bw_t85.cell]; rfl, by rw [Bx0_t85.cell]; rfl, by rw [Bx0_t85.cell]; rfl, by rw [Bx1_t85.cell]; rfl, by rw [Bx1_t85.cell]; rfl, by rw [Bg_t85.cell]; rfl, by rw [Bg_t85.cell]; rfl⟩))
        clear hK K
        try simp only [Act.put, pa, pb, pc]
        refine rd1 3 (fun K hK => ?_)
        go_simp
        go_at_call 20
        refine (toWork_c z1 A1 c1 l1 _ hc1 hlen1 ((hr1.below hw_t85).more hw_t85.size)).mono ?_
        rintro e w37 ⟨gY1, rfl, Y1_n, ge_Y10, lt_Y10, hb37⟩
        clear ge_Y10 lt_Y10
        have W_t86 := W_t85.next hb37
        clear W_t85
        have G_t86 := G_t85.next hb37
        clear G_t85
        have Y0_t86 := Y0_n.next hb37
        clear Y0_n
        have B0_t86 := B0_t85.next hb37
        clear B0_t85
        have B1_t86 := B1_t85.next hb37
        clear B1_t85
        have Bw_t86 := Bw_t85.next hb37
        clear Bw_t85
        have Bx0_t86 := Bx0_t85.next hb37
        clear Bx0_t85
        have Bx1_t86 := Bx1_t85.next hb37
        clear Bx1_t85
        have Bg_t86 := Bg_t85.next hb37
        clear Bg_t85
        have By_t86 := By_t85.next hb37
        clear By_t85
        have hw_t86 := below_next hw_t85 hb37
        have hs_t86 := hb37.size
        have hcn37 := below_next hcn36 hb37
        go_wp2_with fail
        refine hK.out _ _ ?_ (fun hHeld => ?_)
        focus ((try dsimp only); (exact ⟨by rw [B0_t86.cell]; rfl, by rw [B0_t86.cell]; rfl, by rw [B1_t86.cell]; rfl, by rw [B1_t86.cell]; rfl, by rw [Bw_t86.cell]; rfl, by rw [Bw_t86.cell]; rfl, by rw [Bx0_t86.cell]; rfl, by rw [Bx0_t86.cell]; rfl, by rw [Bx1_t86.cell]; rfl, by rw [Bx1_t86.cell]; rfl, by rw [Bg_t86.cell]; rfl, by rw [Bg_t86.cell]; rfl⟩))
        clear hK K
        try simp only [Act.put, pa, pb, pc]
        refine rd1 4 (fun K hK => ?_)
        go_simp
        go_at_call 35
        have hgl := By_t86.lt
        refine (implWorkEndO Y0_t86 Y1_n hf0 hf1 hlen0 hlen1).mono ?_
        rw [HZ0.out, HV0.out, HV1.out]
        rintro e w38 ⟨VHh, rfl, Hh_n, hb38⟩
        have HNE : Hid (∀ k, VHh.ownBlock = some k → k ≠ yb) := Lib.hid (fun k hk => by have := (Hh_n.block_lt hk).1; omega)
        obtain ⟨bHh, nHh, cHh, rfl⟩ := Hh_n.slice
        clear Y0_t86
        clear Y1_n
        have W_t87 := W_t86.next hb38
        clear W_t86
        have G_t87 := G_t86.next hb38
        clear G_t86
        have B0_t87 := B0_t86.next hb38
        clear B0_t86
        have B1_t87 := B1_t86.next hb38
        clear B1_t86
        have Bw_t87 := Bw_t86.next hb38
        clear Bw_t86
        have Bx0_t87 := Bx0_t86.next hb38
        clear Bx0_t86
        have Bx1_t87 := Bx1_t86.next hb38
        clear Bx1_t86
        have Bg_t87 := Bg_t86.next hb38
        clear Bg_t86
        have By_t87 := By_t86.next hb38
        clear By_t86
        have hw_t87 := below_next hw_t86 hb38
        have hs_t87 := hb38.size
        have hcn38 := below_next hcn37 hb38
        go_wp2_with fail
        refine hK.out _ _ ?_ (fun hHeld => ?_)
        focus ((try dsimp only); (exact ⟨by rw [B0_t87.cell]; rfl, by rw [B0_t87.cell]; rfl, by rw [B1_t87.cell]; rfl, by rw [B1_t87.cell]; rfl, by rw [Bw_t87.cell]; rfl, by rw [Bw_t87.cell]; rfl, by rw [Bx0_t87.cell]; rfl, by rw [Bx0_t87.cell]; rfl, by rw [Bx1_t87.cell]; rfl, by rw [Bx1_t87.cell]; rfl, by rw [Bg_t87.cell]; rfl, by rw [Bg_t87.cell]; rfl⟩))
        clear hK K
        try simp only [Act.put, pa, pb, pc]
        (refine tk 5 ?_; try simp only [Act.put, pa, pb, pc])
        (refine tk 6 ?_; try simp only [Act.put, pa, pb, pc])
        (refine tk 7 ?_; try simp only [Act.put, pa, pb, pc])
        have d0 : w38.cell? ⟨yb, 0, none⟩ = some (.int .i64 0) := (by rw [By_t87.cell]; rfl)
        have d1 : w38.cell? ⟨yb, 1, none⟩ = some (.slice none 0 0) := (by rw [By_t87.cell]; rfl)
        have f0 := By_t87.free 0
        have f1 := By_t87.free 1
        have B0_s := (B0_t87.setOther (a := ⟨yb, 0, none⟩) (show w.heap.size ≠ yb from by omega) (.int .i64 vz0)).setOther (a := ⟨yb, 1, none⟩) (show w.heap.size ≠ yb from by omega) (.slice bHh nHh cHh)
        have B1_s := (B1_t87.setOther (a := ⟨yb, 0, none⟩) (show w.heap.size + 1 ≠ yb from by omega) (.int .i64 vz0)).setOther (a := ⟨yb, 1, none⟩) (show w.heap.size + 1 ≠ yb from by omega) (.slice bHh nHh cHh)
        have Bw_s := (Bw_t87.setOther (a := ⟨yb, 0, none⟩) (show gW ≠ yb from by omega) (.int .i64 vz0)).setOther (a := ⟨yb, 1, none⟩) (show gW ≠ yb from by omega) (.slice bHh nHh cHh)
        have Bx0_s := (Bx0_t87.setOther (a := ⟨yb, 0, none⟩) (show w23.heap.size ≠ yb from by omega) (.int .i64 vz0)).setOther (a := ⟨yb, 1, none⟩) (show w23.heap.size ≠ yb from by omega) (.slice bHh nHh cHh)
        have Bx1_s := (Bx1_t87.setOther (a := ⟨yb, 0, none⟩) (show w24.heap.size ≠ yb from by omega) (.int .i64 vz0)).setOther (a := ⟨yb, 1, none⟩) (show w24.heap.size ≠ yb from by omega) (.slice bHh nHh cHh)
        have Bg_s := (Bg_t87.setOther (a := ⟨yb, 0, none⟩) (show w25.heap.size ≠ yb from by omega) (.int .i64 vz0)).setOther (a := ⟨yb, 1, none⟩) (show w25.heap.size ≠ yb from by omega) (.slice bHh nHh cHh)
        have By_s := (By_t87.set_ 0 (.int .i64 vz0)).set_ 1 (.slice bHh nHh cHh)
        have p_s := (Hh_n.setCell (a := ⟨yb, 0, none⟩) HNE.out (.int .i64 vz0)).setCell (a := ⟨yb, 1, none⟩) HNE.out (.slice bHh nHh cHh)
        have hcL : Below w35.heap.size w35 ((w38.setCell ⟨yb, 0, none⟩ (.int .i64 vz0)).setCell ⟨yb, 1, none⟩ (.slice bHh nHh cHh)) := (hcn38.setCell (show w35.heap.size ≤ yb from GG.out) _).setCell (show w35.heap.size ≤ yb from GG.out) _
        refine rd1 9 (fun K hK => ?_)
        go_simp
        refine hK.out _ _ ?_ (fun hHeld => ?_)
        focus ((try dsimp only); (exact ⟨by rw [B0_s.cell]; rfl, by rw [B0_s.cell]; rfl, by rw [B1_s.cell]; rfl, by rw [B1_s.cell]; rfl, by rw [Bw_s.cell]; rfl, by rw [Bw_s.cell]; rfl, by rw [Bx0_s.cell]; rfl, by rw [Bx0_s.cell]; rfl, by rw [Bx1_s.cell]; rfl, by rw [Bx1_s.cell]; rfl, by rw [Bg_s.cell]; rfl, by rw [Bg_s.cell]; rfl⟩))
        clear hK K d0 d1 f0 f1
        try simp only [Act.put, pa, pb, pc]
        (refine tk 10 ?_; try simp only [Act.put, pa, pb, pc])
        refine wpAnyH_done (by kernel_rfl) ?_ _
        go_wp2
        go_meet
        case rel => exact ⟨_, bHh, nHh, cHh, rfl, rfl, By_s.cast rfl, p_s.low hcn37.size, GG.out, HNE.out, hcL⟩
    case rest =>
      obtain ⟨gHh, bHh, nHh, cHh, rfl, rfl, Bh_c, Hh_n, hgg_Hh, hne_Hh, hbc_Hh⟩ := hcut
      obtain ⟨wcHh, HWCHh⟩ : ∃ x, Hid (wc = x) := ⟨_, Lib.hid rfl⟩
      rw [HWCHh.out] at Bh_c Hh_n hbc_Hh
      rw [HWCHh.out]
      have W_t131 := W_t80.next hbc_Hh
      clear W_t80
      have G_t131 := G_t80.next hbc_Hh
      clear G_t80
      have B0_t131 := B0_t80.next hbc_Hh
      clear B0_t80
      have B1_t131 := B1_t80.next hbc_Hh
      clear B1_t80
      have Bw_t131 := Bw_t80.next hbc_Hh
      clear Bw_t80
      have Bx0_t131 := Bx0_t80.next hbc_Hh
      clear Bx0_t80
      have Bx1_t131 := Bx1_t80.next hbc_Hh
      clear Bx1_t80
      have Bg_t131 := Bg_t80.next hbc_Hh
      clear Bg_t80
      have hw_t131 := below_next hw_t80 hbc_Hh
      have hs_t131 := hbc_Hh.size
      have ge_Hh : ∀ g, (Value.slice bHh nHh cHh).ownBlock = some g → w35.heap.size ≤ g := fun g hg => (Hh_n.block_lt hg).1
      have lt_Hh : ∀ g, (Value.slice bHh nHh cHh).ownBlock = some g → g < wcHh.heap.size := fun g hg => (Hh_n.block_lt hg).2
      have hgl_Hh := Bh_c.lt
      have qB00 : wcHh.cell? ⟨w.heap.size, 0, none⟩ = some (.int .i64 z0) := by rw [B0_t131.cell]; rfl
      have qB01 : wcHh.cell? ⟨w.heap.size, 1, none⟩ = some (.slice A0 l0.length c0) := by rw [B0_t131.cell]; rfl
      have qB10 : wcHh.cell? ⟨w.heap.size + 1, 0, none⟩ = some (.int .i64 z1) := by rw [B1_t131.cell]; rfl
      have qB11 : wcHh.cell? ⟨w.heap.size + 1, 1, none⟩ = some (.slice A1 l1.length c1) := by rw [B1_t131.cell]; rfl
      have qBw0 : wcHh.cell? ⟨gW, 0, none⟩ = some (.int .i64 vz0) := by rw [Bw_t131.cell]; rfl
      have qBw1 : wcHh.cell? ⟨gW, 1, none⟩ = some (.slice bW nW cW) := by rw [Bw_t131.cell]; rfl
      have qBx00 : wcHh.cell? ⟨w23.heap.size, 0, none⟩ = some (.int .i64 z0) := by rw [Bx0_t131.cell]; rfl
      have qBx01 : wcHh.cell? ⟨w23.heap.size, 1, none⟩ = some (.slice (some ⟨gX0, 0, none⟩) l0.length l0.length) := by rw [Bx0_t131.cell]; rfl
      have qBx10 : wcHh.cell? ⟨w24.heap.size, 0, none⟩ = some (.int .i64 z1) := by rw [Bx1_t131.cell]; rfl
      have qBx11 : wcHh.cell? ⟨w24.heap.size, 1, none⟩ = some (.slice (some ⟨gX1, 0, none⟩) l1.length l1.length) := by rw [Bx1_t131.cell]; rfl
      have qBg0 : wcHh.cell? ⟨w25.heap.size, 0, none⟩ = some (.int .i64 vz0) := by rw [Bg_t131.cell]; rfl
      have qBg1 : wcHh.cell? ⟨w25.heap.size, 1, none⟩ = some (.slice bG nG cG) := by rw [Bg_t131.cell]; rfl
      have qBh0 : wcHh.cell? ⟨gHh, 0, none⟩ = some (.int .i64 vz0) := by rw [Bh_c.cell]; rfl
      have qBh1 : wcHh.cell? ⟨gHh, 1, none⟩ = some (.slice bHh nHh cHh) := by rw [Bh_c.cell]; rfl
      go_wp2_with fail
      clear qB00 qB01 qB10 qB11 qBw0 qBw1 qBx00 qBx01 qBx10 qBx11 qBg0 qBg1 qBh0 qBh1
      refine (eqVers_c vz0 vz0 _ _ vl0 vl0 _ _ _ Hh_n W_t131 (by omega) (by omega)).mono ?_
      rintro e w56 ⟨rfl, hb56⟩
      rw [HE0.out]
      have W_t132 := W_t131.next hb56
      clear W_t131
      have G_t132 := G_t131.next hb56
      clear G_t131
      have Hh_t132 := Hh_n.next hb56
      clear Hh_n
      have B0_t132 := B0_t131.next hb56
      clear B0_t131
      have B1_t132 := B1_t131.next hb56
      clear B1_t131
      have Bw_t132 := Bw_t131.next hb56
      clear Bw_t131
      have Bx0_t132 := Bx0_t131.next hb56
      clear Bx0_t131
      have Bx1_t132 := Bx1_t131.next hb56
      clear Bx1_t131
      have Bg_t132 := Bg_t131.next hb56
      clear Bg_t131
      have Bh_t132 := Bh_c.next hb56
      clear Bh_c
      have hw_t132 := below_next hw_t131 hb56
      have hs_t132 := hb56.size
      have qB00 : w56.cell? ⟨w.heap.size, 0, none⟩ = some (.int .i64 z0) := by rw [B0_t132.cell]; rfl
      have qB01 : w56.cell? ⟨w.heap.size, 1, none⟩ = some (.slice A0 l0.length c0) := by rw [B0_t132.cell]; rfl
      have qB10 : w56.cell? ⟨w.heap.size + 1, 0, none⟩ = some (.int .i64 z1) := by rw [B1_t132.cell]; rfl
      have qB11 : w56.cell? ⟨w.heap.size + 1, 1, none⟩ = some (.slice A1 l1.length c1) := by rw [B1_t132.cell]; rfl
      have qBw0 : w56.cell? ⟨gW, 0, none⟩ = some (.int .i64 vz0) := by rw [Bw_t132.cell]; rfl
      have qBw1 : w56.cell? ⟨gW, 1, none⟩ = some (.slice bW nW cW) := by rw [Bw_t132.cell]; rfl
      have qBx00 : w56.cell? ⟨w23.heap.size, 0, none⟩ = some (.int .i64 z0) := by rw [Bx0_t132.cell]; rfl
      have qBx01 : w56.cell? ⟨w23.heap.size, 1, none⟩ = some (.slice (some ⟨gX0, 0, none⟩) l0.length l0.length) := by rw [Bx0_t132.cell]; rfl
      have qBx10 : w56.cell? ⟨w24.heap.size, 0, none⟩ = some (.int .i64 z1) := by rw [Bx1_t132.cell]; rfl
      have qBx11 : w56.cell? ⟨w24.heap.size, 1, none⟩ = some (.slice (some ⟨gX1, 0, none⟩) l1.length l1.length) := by rw [Bx1_t132.cell]; rfl
      have qBg0 : w56.cell? ⟨w25.heap.size, 0, none⟩ = some (.int .i64 vz0) := by rw [Bg_t132.cell]; rfl
      have qBg1 : w56.cell? ⟨w25.heap.size, 1, none⟩ = some (.slice bG nG cG) := by rw [Bg_t132.cell]; rfl
      have qBh0 : w56.cell? ⟨gHh, 0, none⟩ = some (.int .i64 vz0) := by rw [Bh_t132.cell]; rfl
      have qBh1 : w56.cell? ⟨gHh, 1, none⟩ = some (.slice bHh nHh cHh) := by rw [Bh_t132.cell]; rfl
      go_wp2_with fail
      clear qB00 qB01 qB10 qB11 qBw0 qBw1 qBx00 qBx01 qBx10 qBx11 qBg0 qBg1 qBh0 qBh1
      refine (heldVers_c vz0 _ vl0.length _ 1 _ G_t132 (by omega) (by omega)).mono ?_
      rintro e w57 ⟨rfl, hb57⟩
      have W_t133 := W_t132.next hb57
      clear W_t132
      have G_t133 := G_t132.next hb57
      clear G_t132
      have Hh_t133 := Hh_t132.next hb57
      clear Hh_t132
      have B0_t133 := B0_t132.next hb57
      clear B0_t132
      have B1_t133 := B1_t132.next hb57
      clear B1_t132
      have Bw_t133 := Bw_t132.next hb57
      clear Bw_t132
      have Bx0_t133 := Bx0_t132.next hb57
      clear Bx0_t132
      have Bx1_t133 := Bx1_t132.next hb57
      clear Bx1_t132
      have Bg_t133 := Bg_t132.next hb57
      clear Bg_t132
      have Bh_t133 := Bh_t132.next hb57
      clear Bh_t132
      have hw_t133 := below_next hw_t132 hb57
      have hs_t133 := hb57.size
      have qB00 : w57.cell? ⟨w.heap.size, 0, none⟩ = some (.int .i64 z0) := by rw [B0_t133.cell]; rfl
      have qB01 : w57.cell? ⟨w.heap.size, 1, none⟩ = some (.slice A0 l0.length c0) := by rw [B0_t133.cell]; rfl
      have qB10 : w57.cell? ⟨w.heap.size + 1, 0, none⟩ = some (.int .i64 z1) := by rw [B1_t133.cell]; rfl
      have qB11 : w57.cell? ⟨w.heap.size + 1, 1, none⟩ = some (.slice A1 l1.length c1) := by rw [B1_t133.cell]; rfl
      have qBw0 : w57.cell? ⟨gW, 0, none⟩ = some (.int .i64 vz0) := by rw [Bw_t133.cell]; rfl
      have qBw1 : w57.cell? ⟨gW, 1, none⟩ = some (.slice bW nW cW) := by rw [Bw_t133.cell]; rfl
      have qBx00 : w57.cell? ⟨w23.heap.size, 0, none⟩ = some (.int .i64 z0) := by rw [Bx0_t133.cell]; rfl
      have qBx01 : w57.cell? ⟨w23.heap.size, 1, none⟩ = some (.slice (some ⟨gX0, 0, none⟩) l0.length l0.length) := by rw [Bx0_t133.cell]; rfl
      have qBx10 : w57.cell? ⟨w24.heap.size, 0, none⟩ = some (.int .i64 z1) := by rw [Bx1_t133.cell]; rfl
      have qBx11 : w57.cell? ⟨w24.heap.size, 1, none⟩ = some (.slice (some ⟨gX1, 0, none⟩) l1.length l1.length) := by rw [Bx1_t133.cell]; rfl
      have qBg0 : w57.cell? ⟨w25.heap.size, 0, none⟩ = some (.int .i64 vz0) := by rw [Bg_t133.cell]; rfl
      have qBg1 : w57.cell? ⟨w25.heap.size, 1, none⟩ = some (.slice bG nG cG) := by rw [Bg_t133.cell]; rfl
      have qBh0 : w57.cell? ⟨gHh, 0, none⟩ = some (.int .i64 vz0) := by rw [Bh_t133.cell]; rfl
      have qBh1 : w57.cell? ⟨gHh, 1, none⟩ = some (.slice bHh nHh cHh) := by rw [Bh_t133.cell]; rfl
      go_wp2
      go_ret
      exact ⟨rfl, hw_t133⟩

set_option maxRecDepth 100000 in
theorem lifted (os : Os) (started : os.Started) (H : Type) (enc : TypeId × Value → H) :
    ReturnsInHanded {} Tryz.checked os 5 .any (Rows.fnExactWorkEndSpec.pre6 enc Tryz.prog Tryz.f5 Rows.fnExactWorkEndRow.domain false) (Rows.fnExactWorkEndSpec.post enc Tryz.prog Tryz.f5 false true false false) := by
  refine returnsInHanded_of_change (C := Tryz.checked) Whole.own started (by kernel_rfl) Tryz.func5
    (ChangeSpec.witness6 (enc := enc) (C := Tryz.checked) false ⟨#[], #[.agg #[.int .i64 0, .slice none 0 0], .agg #[.int .i64 0, .slice none 0 0]], []⟩ 8 (by kernel_rfl) (by kernel_rfl) (by kernel_rfl) (by kernel_rfl)) ?_
  intro W base args ds gs before hval0 hW hcnd _
  have hval : ∀ (j : Nat) t v, Tryz.f5.params[j]? = some t → args[j]? = some v → Value.okWide Tryz.prog W .any base t v := hval0
  have hW' := hW
  obtain ⟨p, q, hA0, hV, rfl, hfz, hnd⟩ := hW
  have hA : DataW.TrodAll enc Tryz.prog W 0 (fun _ => true) true Tryz.f5.params.toList args.toList ds p := hA0
  rw [Tryz.params5] at hA hval
  obtain ⟨v0, vs0, d0, ds0, p0, q0, hargs, rfl, rfl, h0, r0⟩ := trodAll_cons hA
  obtain ⟨v1, vs1, d1, ds1, p1, q1, rfl, rfl, rfl, h1, r1⟩ := trodAll_cons r0
  obtain ⟨rfl, rfl, rfl⟩ := trodAll_nil r1
  obtain rfl : args = #[v0, v1] := by cases args; simp_all
  obtain ⟨rfl, rfl⟩ := trodVars_none hV
  have k0 := h0
  have lt0 : ∀ x ∈ p0, x.block < W.heap.size := by obtain ⟨m, hm⟩ := k0; exact DataW.trod_lt m _ _ _ hm
  obtain ⟨z0, A0, c0, l0, rfl, hz0, hc0, hm0, hf0, hr0⟩ := openArgVers (hval 0 24 v0 rfl rfl) h0
  have k1 := h1
  have lt1 : ∀ x ∈ p1, x.block < W.heap.size := by obtain ⟨m, hm⟩ := k1; exact DataW.trod_lt m _ _ _ hm
  obtain ⟨z1, A1, c1, l1, rfl, hz1, hc1, hm1, hf1, hr1⟩ := openArgWork (hval 1 27 v1 rfl rfl) h1
  clear hA0 hval0
  refine (walk z0 A0 c0 l0 z1 A1 c1 l1 W hz0 hc0 hm0 hf0 hr0 hz1 hc1 hm1 hf1 hr1).mono fun e W' ⟨he, bel⟩ => ?_
  subst he
  exact ⟨_, rfl, _, _, _, [], _, [], hW', trodAll_mk1 (shut_bool Tryz.underlying4 _), (trodAll_cons_mk (Below.trod Whole.laidOut (by kernel_rfl) (of_decide_eq_true (by kernel_rfl)) k0 bel lt0) (trodAll_cons_mk (Below.trod Whole.laidOut (by kernel_rfl) (of_decide_eq_true (by kernel_rfl)) k1 bel lt1) trodAll_mk0)), rfl, bel.frame _, fun h => by cases h⟩

theorem named : Tryz.prog.funcNamed Rows.fnExactWorkEndRow.func = some 5 := by kernel_rfl
theorem closed : Whole.lawFacts Tryz.prog 5 Tryz.f5 Rows.fnExactWorkEndSpec Rows.fnExactWorkEndRow = true := by kernel_rfl
theorem inst : Tryz.f5.isInstance Tryz.prog Rows.fnExactWorkEndRow.origin Rows.fnExactWorkEndRow.targs := of_decide_eq_true (by kernel_rfl)
theorem wrap : Tryz.f5.isWrapper Tryz.prog Rows.fnExactWorkEndRow.wrapper Rows.fnExactWorkEndRow.mainSum := by
  unfold Func.isWrapper; first | (rw [if_pos (by decide +kernel)]; kernel_rfl) | (rw [if_neg (by decide +kernel)]; exact ⟨rfl, rfl⟩)
theorem over : Rows.fnExactWorkEndRow.holds Tryz.pinned (OpenSpec.ofChange Rows.fnExactWorkEndSpec) :=
  OpenClaim.holds_of_wide 5 Tryz.f5 rfl rfl rfl rfl rfl rfl rfl ⟨rfl, rfl, rfl, rfl, rfl⟩ rfl rfl rfl rfl rfl named Tryz.func5 (Whole.facts_of closed)
    inst wrap (fun os started H enc _ => lifted os started H enc)

theorem proved : Rows.FnExactWorkEndSaid := over
#print axioms proved
end Go.Proofs.YtbeklnhngjmpiaaGreat.fnExactWorkEnd
