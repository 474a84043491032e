/- for every history and every list of writes the program's VersDo answers as the model's VersDo, writes into no argument, and answers in memory of its own -/
import Derived.Test.YtbhdgalkedegjaaRows
import Derived.Test.YtbhdgalkedegjaaWhole
import Derived.Test.YtbhdgalkedegjaaArVers
import Derived.Test.YtbhdgalkedegjaaArWrite
import Derived.Test.YtbhdgalkedegjaaC2t
import Derived.Test.YtbhdgalkedegjaaLw
import Derived.Test.YtbhdgalkedegjaaRg
import Derived.WalkKit
import Derived.ProofKit
import Derived.OpenShut
import Derived.ShutString
import Derived.ChangeOld
import Derived.Below
namespace Go.Proofs.Ytbhdgalkedegjaa.fnExactVersDo
open Go.ChangeShapes Go.WideShapes Go.ChangeAt Go.RowKit
open Go.ChangeMaps (open_string shut_string)
set_option linter.unusedVariables false

set_option maxRecDepth 100000 in
set_option maxHeartbeats 1000000 in
theorem walk (z0 : Int) (A0 : Option Addr) (c0 : Nat) (l0 : List V) (A1 : Option Addr) (c1 : Nat) (l1 : List X) (w : World) (hz0 : FitI z0) (hc0 : l0.length ≤ c0) (hm0 : c0 ≤ maxLen) (hf0 : FitVs l0) (hr0 : RdG w w.heap.size A0 l0) (hc1 : l1.length ≤ c1) (hm1 : c1 ≤ maxLen) (hf1 : FitXs l1) (hr1 : RdG w w.heap.size A1 l1) :
    Calls Try.prog 7 #[.agg #[.int .i64 z0, .slice A0 l0.length c0], .slice A1 l1.length c1] w fun e w' => e = .returned (.bool true) ∧ Below w.heap.size w w' := by
  have htl0 := totalV_len l0
  by_cases ht0 : (totalV l0 : Int) ≤ 1048576
  rotate_left
  · have H0 := Lib.hid (szR_neg (left := 1048576) (k := totalV l0) (by omega))
    go_enter Try.func7, Try.ntmps7
    have hb_t1 := below_alloc (Below.refl _ w) (.cells #[.int .i64 z0, .slice A0 l0.length c0] 24)
    have B0_t1 := blkA w #[.int .i64 z0, .slice A0 l0.length c0] 24
    have hz_t1 : (w.alloc (.cells #[.int .i64 z0, .slice A0 l0.length c0] 24)).heap.size = w.heap.size + 1 := World.size_alloc _ _
    have hw_t2 := hb_t1
    have hs_t2 := hb_t1.size
    have qB00 : (w.alloc (.cells #[.int .i64 z0, .slice A0 l0.length c0] 24)).cell? ⟨w.heap.size, 0, none⟩ = some (.int .i64 z0) := by rw [B0_t1.cell]; rfl
    have qB01 : (w.alloc (.cells #[.int .i64 z0, .slice A0 l0.length c0] 24)).cell? ⟨w.heap.size, 1, none⟩ = some (.slice A0 l0.length c0) := by rw [B0_t1.cell]; rfl
    go_wp2_with fail
    clear qB00 qB01
    refine (szVers_c z0 A0 c0 l0 1048576 _ hf0 hc0 hm0 (by omega) (by omega) ((hr0.below hw_t2).more hw_t2.size)).mono ?_
    rintro e w1 ⟨rfl, hb1⟩
    rw [H0.out]
    have B0_t3 := B0_t1.next hb1
    clear B0_t1
    have hw_t3 := below_next hw_t2 hb1
    have hs_t3 := hb1.size
    go_wp2
    go_ret
    exact ⟨rfl, hw_t3⟩
  obtain ⟨L0, H0, hL0, hL0x⟩ : ∃ L : Int, Hid (szR 1048576 (totalV l0) = L) ∧ 0 ≤ L ∧ L ≤ 1048576 := ⟨_, Lib.hid rfl, by rw [szR_pos ht0]; omega, by rw [szR_pos ht0]; omega⟩
  have hlen0 : l0.length ≤ 1048576 := by omega
  clear ht0 htl0
  have htl1 := totalX_len l1
  by_cases ht1 : (totalX l1 : Int) ≤ L0
  rotate_left
  · have H1 := Lib.hid (szR_neg (left := L0) (k := totalX l1) (by omega))
    go_enter Try.func7, Try.ntmps7
    have hb_t1 := below_alloc (Below.refl _ w) (.cells #[.int .i64 z0, .slice A0 l0.length c0] 24)
    have B0_t1 := blkA w #[.int .i64 z0, .slice A0 l0.length c0] 24
    have hz_t1 : (w.alloc (.cells #[.int .i64 z0, .slice A0 l0.length c0] 24)).heap.size = w.heap.size + 1 := World.size_alloc _ _
    have hw_t2 := hb_t1
    have hs_t2 := hb_t1.size
    have qB00 : (w.alloc (.cells #[.int .i64 z0, .slice A0 l0.length c0] 24)).cell? ⟨w.heap.size, 0, none⟩ = some (.int .i64 z0) := by rw [B0_t1.cell]; rfl
    have qB01 : (w.alloc (.cells #[.int .i64 z0, .slice A0 l0.length c0] 24)).cell? ⟨w.heap.size, 1, none⟩ = some (.slice A0 l0.length c0) := by rw [B0_t1.cell]; rfl
    go_wp2_with fail
    clear qB00 qB01
    refine (szVers_c z0 A0 c0 l0 1048576 _ hf0 hc0 hm0 (by omega) (by omega) ((hr0.below hw_t2).more hw_t2.size)).mono ?_
    rintro e w1 ⟨rfl, hb1⟩
    rw [H0.out]
    have B0_t3 := B0_t1.next hb1
    clear B0_t1
    have hw_t3 := below_next hw_t2 hb1
    have hs_t3 := hb1.size
    have qB00 : w1.cell? ⟨w.heap.size, 0, none⟩ = some (.int .i64 z0) := by rw [B0_t3.cell]; rfl
    have qB01 : w1.cell? ⟨w.heap.size, 1, none⟩ = some (.slice A0 l0.length c0) := by rw [B0_t3.cell]; rfl
    go_wp2_with fail
    clear qB00 qB01
    refine (szWriteS_c A1 c1 l1 L0 _ hf1 hc1 hm1 (by omega) (by omega) ((hr1.below hw_t3).more hw_t3.size)).mono ?_
    rintro e w2 ⟨rfl, hb2⟩
    rw [H1.out]
    have B0_t4 := B0_t3.next hb2
    clear B0_t3
    have hw_t4 := below_next hw_t3 hb2
    have hs_t4 := hb2.size
    go_wp2
    go_ret
    exact ⟨rfl, hw_t4⟩
  obtain ⟨L1, H1, hL1, hL1x⟩ : ∃ L : Int, Hid (szR L0 (totalX l1) = L) ∧ 0 ≤ L ∧ L ≤ 1048576 := ⟨_, Lib.hid rfl, by rw [szR_pos ht1]; omega, by rw [szR_pos ht1]; omega⟩
  have hlen1 : l1.length ≤ 1048576 := by omega
  clear ht1 htl1
  have hvl0 : (doL z0 l0 l1).length ≤ 1048577 := doL_len z0 l0 l1 hlen0
  obtain ⟨vz0, HZ0⟩ : ∃ x, Hid (doZ z0 l0 l1 = x) := ⟨_, Lib.hid rfl⟩
  obtain ⟨vl0, HV0⟩ : ∃ x, Hid (doL z0 l0 l1 = x) := ⟨_, Lib.hid rfl⟩
  rw [HV0.out] at hvl0
  have HE0 := Lib.hid (sameB_refl vz0 vl0)
  obtain ⟨vb1, HV1⟩ : ∃ x, Hid (doB z0 l0 l1 = x) := ⟨_, Lib.hid rfl⟩
  have HA0 := Lib.hid (sameB_refl z0 l0)
  have HA1 := Lib.hid (eqXs_yes (rfl : l1 = l1))
  go_enter Try.func7, Try.ntmps7
  have hb_t1 := below_alloc (Below.refl _ w) (.cells #[.int .i64 z0, .slice A0 l0.length c0] 24)
  have B0_t1 := blkA w #[.int .i64 z0, .slice A0 l0.length c0] 24
  have hz_t1 : (w.alloc (.cells #[.int .i64 z0, .slice A0 l0.length c0] 24)).heap.size = w.heap.size + 1 := World.size_alloc _ _
  have hw_t2 := hb_t1
  have hs_t2 := hb_t1.size
  have qB00 : (w.alloc (.cells #[.int .i64 z0, .slice A0 l0.length c0] 24)).cell? ⟨w.heap.size, 0, none⟩ = some (.int .i64 z0) := by rw [B0_t1.cell]; rfl
  have qB01 : (w.alloc (.cells #[.int .i64 z0, .slice A0 l0.length c0] 24)).cell? ⟨w.heap.size, 1, none⟩ = some (.slice A0 l0.length c0) := by rw [B0_t1.cell]; rfl
  go_wp2_with fail
  clear qB00 qB01
  refine (szVers_c z0 A0 c0 l0 1048576 _ hf0 hc0 hm0 (by omega) (by omega) ((hr0.below hw_t2).more hw_t2.size)).mono ?_
  rintro e w1 ⟨rfl, hb1⟩
  rw [H0.out]
  have B0_t3 := B0_t1.next hb1
  clear B0_t1
  have hw_t3 := below_next hw_t2 hb1
  have hs_t3 := hb1.size
  have qB00 : w1.cell? ⟨w.heap.size, 0, none⟩ = some (.int .i64 z0) := by rw [B0_t3.cell]; rfl
  have qB01 : w1.cell? ⟨w.heap.size, 1, none⟩ = some (.slice A0 l0.length c0) := by rw [B0_t3.cell]; rfl
  go_wp2_with fail
  clear qB00 qB01
  refine (szWriteS_c A1 c1 l1 L0 _ hf1 hc1 hm1 (by omega) (by omega) ((hr1.below hw_t3).more hw_t3.size)).mono ?_
  rintro e w2 ⟨rfl, hb2⟩
  rw [H1.out]
  have B0_t4 := B0_t3.next hb2
  clear B0_t3
  have hw_t4 := below_next hw_t3 hb2
  have hs_t4 := hb2.size
  have qB00 : w2.cell? ⟨w.heap.size, 0, none⟩ = some (.int .i64 z0) := by rw [B0_t4.cell]; rfl
  have qB01 : w2.cell? ⟨w.heap.size, 1, none⟩ = some (.slice A0 l0.length c0) := by rw [B0_t4.cell]; rfl
  go_wp2_with fail
  clear qB00 qB01
  refine (toVers_c z0 A0 c0 l0 _ hc0 hlen0 ((hr0.below hw_t4).more hw_t4.size)).mono ?_
  rintro e w3 ⟨gY0, rfl, Y0_n, ge_Y00, lt_Y00, hb3⟩
  have B0_t5 := B0_t4.next hb3
  clear B0_t4
  have hw_t5 := below_next hw_t4 hb3
  have hs_t5 := hb3.size
  have ge_Y0 : ∀ g, (Value.slice (some ⟨gY0, 0, none⟩) l0.length l0.length).ownBlock = some g → (w2).heap.size ≤ g := fun g hg => (by have : gY0 = g := Option.some.inj hg; omega)
  have lt_Y0 : ∀ g, (Value.slice (some ⟨gY0, 0, none⟩) l0.length l0.length).ownBlock = some g → g < w3.heap.size := fun g hg => (by have : gY0 = g := Option.some.inj hg; omega)
  clear ge_Y00 lt_Y00
  have qB00 : w3.cell? ⟨w.heap.size, 0, none⟩ = some (.int .i64 z0) := by rw [B0_t5.cell]; rfl
  have qB01 : w3.cell? ⟨w.heap.size, 1, none⟩ = some (.slice A0 l0.length c0) := by rw [B0_t5.cell]; rfl
  go_wp2_with fail
  clear qB00 qB01
  refine (toWriteOwn_c A1 c1 l1 _ hc1 hlen1 ((hr1.below hw_t5).more hw_t5.size)).mono ?_
  rintro e w4 ⟨gY1, rfl, Y1_n, ge_Y10, lt_Y10, hb4⟩
  have Y0_t6 := Y0_n.next hb4
  clear Y0_n
  have B0_t6 := B0_t5.next hb4
  clear B0_t5
  have hw_t6 := below_next hw_t5 hb4
  have hs_t6 := hb4.size
  have ge_Y1 : ∀ g, (Value.slice (some ⟨gY1, 0, none⟩) l1.length l1.length).ownBlock = some g → (w3).heap.size ≤ g := fun g hg => (by have : gY1 = g := Option.some.inj hg; omega)
  have lt_Y1 : ∀ g, (Value.slice (some ⟨gY1, 0, none⟩) l1.length l1.length).ownBlock = some g → g < w4.heap.size := fun g hg => (by have : gY1 = g := Option.some.inj hg; omega)
  clear ge_Y10 lt_Y10
  have qB00 : w4.cell? ⟨w.heap.size, 0, none⟩ = some (.int .i64 z0) := by rw [B0_t6.cell]; rfl
  have qB01 : w4.cell? ⟨w.heap.size, 1, none⟩ = some (.slice A0 l0.length c0) := by rw [B0_t6.cell]; rfl
  go_wp2_with fail
  clear qB00 qB01
  refine (specVersDoO Y0_t6 Y1_n hf0 hf1 hlen0).mono ?_
  rw [HZ0.out, HV0.out, HV1.out]
  rintro e w5 ⟨VW, rfl, W_n, hb5⟩
  obtain ⟨bW, nW, cW, rfl⟩ := W_n.slice
  have Y0_t7 := Y0_t6.next hb5
  clear Y0_t6
  have Y1_t7 := Y1_n.next hb5
  clear Y1_n
  have B0_t7 := B0_t6.next hb5
  clear B0_t6
  have hw_t7 := below_next hw_t6 hb5
  have hs_t7 := hb5.size
  have ge_W : ∀ g, (Value.slice bW nW cW).ownBlock = some g → (w4).heap.size ≤ g := fun g hg => (W_n.block_lt hg).1
  have lt_W : ∀ g, (Value.slice bW nW cW).ownBlock = some g → g < w5.heap.size := fun g hg => (W_n.block_lt hg).2
  have hb_t8 := below_alloc (Below.refl _ w5) (.cells #[.int .i64 vz0, .slice bW nW cW] 29)
  have Bw_t8 := blkA w5 #[.int .i64 vz0, .slice bW nW cW] 29
  have hz_t8 : (w5.alloc (.cells #[.int .i64 vz0, .slice bW nW cW] 29)).heap.size = w5.heap.size + 1 := World.size_alloc _ _
  have Y0_t9 := Y0_t7.next hb_t8
  clear Y0_t7
  have Y1_t9 := Y1_t7.next hb_t8
  clear Y1_t7
  have W_t9 := W_n.next hb_t8
  clear W_n
  have B0_t9 := B0_t7.next hb_t8
  clear B0_t7
  have hw_t9 := below_next hw_t7 hb_t8
  have hs_t9 := hb_t8.size
  clear Y0_t9
  clear Y1_t9
  have qB00 : (w5.alloc (.cells #[.int .i64 vz0, .slice bW nW cW] 29)).cell? ⟨w.heap.size, 0, none⟩ = some (.int .i64 z0) := by rw [B0_t9.cell]; rfl
  have qB01 : (w5.alloc (.cells #[.int .i64 vz0, .slice bW nW cW] 29)).cell? ⟨w.heap.size, 1, none⟩ = some (.slice A0 l0.length c0) := by rw [B0_t9.cell]; rfl
  have qBw0 : (w5.alloc (.cells #[.int .i64 vz0, .slice bW nW cW] 29)).cell? ⟨w5.heap.size, 0, none⟩ = some (.int .i64 vz0) := by rw [Bw_t8.cell]; rfl
  have qBw1 : (w5.alloc (.cells #[.int .i64 vz0, .slice bW nW cW] 29)).cell? ⟨w5.heap.size, 1, none⟩ = some (.slice bW nW cW) := by rw [Bw_t8.cell]; rfl
  go_wp2_with fail
  clear qB00 qB01 qBw0 qBw1
  refine (toVers_c z0 A0 c0 l0 _ hc0 hlen0 ((hr0.below hw_t9).more hw_t9.size)).mono ?_
  rintro e w6 ⟨gX0, rfl, X0_n, ge_X00, lt_X00, hb6⟩
  have W_t10 := W_t9.next hb6
  clear W_t9
  have B0_t10 := B0_t9.next hb6
  clear B0_t9
  have Bw_t10 := Bw_t8.next hb6
  clear Bw_t8
  have hw_t10 := below_next hw_t9 hb6
  have hs_t10 := hb6.size
  have ge_X0 : ∀ g, (Value.slice (some ⟨gX0, 0, none⟩) l0.length l0.length).ownBlock = some g → ((w5.alloc (.cells #[.int .i64 vz0, .slice bW nW cW] 29))).heap.size ≤ g := fun g hg => (by have : gX0 = g := Option.some.inj hg; omega)
  have lt_X0 : ∀ g, (Value.slice (some ⟨gX0, 0, none⟩) l0.length l0.length).ownBlock = some g → g < w6.heap.size := fun g hg => (by have : gX0 = g := Option.some.inj hg; omega)
  clear ge_X00 lt_X00
  have hb_t11 := below_alloc (Below.refl _ w6) (.cells #[.int .i64 z0, .slice (some ⟨gX0, 0, none⟩) l0.length l0.length] 29)
  have Bx0_t11 := blkA w6 #[.int .i64 z0, .slice (some ⟨gX0, 0, none⟩) l0.length l0.length] 29
  have hz_t11 : (w6.alloc (.cells #[.int .i64 z0, .slice (some ⟨gX0, 0, none⟩) l0.length l0.length] 29)).heap.size = w6.heap.size + 1 := World.size_alloc _ _
  have W_t12 := W_t10.next hb_t11
  clear W_t10
  have X0_t12 := X0_n.next hb_t11
  clear X0_n
  have B0_t12 := B0_t10.next hb_t11
  clear B0_t10
  have Bw_t12 := Bw_t10.next hb_t11
  clear Bw_t10
  have hw_t12 := below_next hw_t10 hb_t11
  have hs_t12 := hb_t11.size
  have qB00 : (w6.alloc (.cells #[.int .i64 z0, .slice (some ⟨gX0, 0, none⟩) l0.length l0.length] 29)).cell? ⟨w.heap.size, 0, none⟩ = some (.int .i64 z0) := by rw [B0_t12.cell]; rfl
  have qB01 : (w6.alloc (.cells #[.int .i64 z0, .slice (some ⟨gX0, 0, none⟩) l0.length l0.length] 29)).cell? ⟨w.heap.size, 1, none⟩ = some (.slice A0 l0.length c0) := by rw [B0_t12.cell]; rfl
  have qBw0 : (w6.alloc (.cells #[.int .i64 z0, .slice (some ⟨gX0, 0, none⟩) l0.length l0.length] 29)).cell? ⟨w5.heap.size, 0, none⟩ = some (.int .i64 vz0) := by rw [Bw_t12.cell]; rfl
  have qBw1 : (w6.alloc (.cells #[.int .i64 z0, .slice (some ⟨gX0, 0, none⟩) l0.length l0.length] 29)).cell? ⟨w5.heap.size, 1, none⟩ = some (.slice bW nW cW) := by rw [Bw_t12.cell]; rfl
  have qBx00 : (w6.alloc (.cells #[.int .i64 z0, .slice (some ⟨gX0, 0, none⟩) l0.length l0.length] 29)).cell? ⟨w6.heap.size, 0, none⟩ = some (.int .i64 z0) := by rw [Bx0_t11.cell]; rfl
  have qBx01 : (w6.alloc (.cells #[.int .i64 z0, .slice (some ⟨gX0, 0, none⟩) l0.length l0.length] 29)).cell? ⟨w6.heap.size, 1, none⟩ = some (.slice (some ⟨gX0, 0, none⟩) l0.length l0.length) := by rw [Bx0_t11.cell]; rfl
  go_wp2_with fail
  clear qB00 qB01 qBw0 qBw1 qBx00 qBx01
  refine (toWriteOwn_c A1 c1 l1 _ hc1 hlen1 ((hr1.below hw_t12).more hw_t12.size)).mono ?_
  rintro e w7 ⟨gX1, rfl, X1_n, ge_X10, lt_X10, hb7⟩
  have W_t13 := W_t12.next hb7
  clear W_t12
  have X0_t13 := X0_t12.next hb7
  clear X0_t12
  have B0_t13 := B0_t12.next hb7
  clear B0_t12
  have Bw_t13 := Bw_t12.next hb7
  clear Bw_t12
  have Bx0_t13 := Bx0_t11.next hb7
  clear Bx0_t11
  have hw_t13 := below_next hw_t12 hb7
  have hs_t13 := hb7.size
  have ge_X1 : ∀ g, (Value.slice (some ⟨gX1, 0, none⟩) l1.length l1.length).ownBlock = some g → ((w6.alloc (.cells #[.int .i64 z0, .slice (some ⟨gX0, 0, none⟩) l0.length l0.length] 29))).heap.size ≤ g := fun g hg => (by have : gX1 = g := Option.some.inj hg; omega)
  have lt_X1 : ∀ g, (Value.slice (some ⟨gX1, 0, none⟩) l1.length l1.length).ownBlock = some g → g < w7.heap.size := fun g hg => (by have : gX1 = g := Option.some.inj hg; omega)
  clear ge_X10 lt_X10
  have qB00 : w7.cell? ⟨w.heap.size, 0, none⟩ = some (.int .i64 z0) := by rw [B0_t13.cell]; rfl
  have qB01 : w7.cell? ⟨w.heap.size, 1, none⟩ = some (.slice A0 l0.length c0) := by rw [B0_t13.cell]; rfl
  have qBw0 : w7.cell? ⟨w5.heap.size, 0, none⟩ = some (.int .i64 vz0) := by rw [Bw_t13.cell]; rfl
  have qBw1 : w7.cell? ⟨w5.heap.size, 1, none⟩ = some (.slice bW nW cW) := by rw [Bw_t13.cell]; rfl
  have qBx00 : w7.cell? ⟨w6.heap.size, 0, none⟩ = some (.int .i64 z0) := by rw [Bx0_t13.cell]; rfl
  have qBx01 : w7.cell? ⟨w6.heap.size, 1, none⟩ = some (.slice (some ⟨gX0, 0, none⟩) l0.length l0.length) := by rw [Bx0_t13.cell]; rfl
  go_wp2_with fail
  clear qB00 qB01 qBw0 qBw1 qBx00 qBx01
  refine (implVersDoO X0_t13 X1_n hf0 hf1 hlen0 hlen1).mono ?_
  rw [HZ0.out, HV0.out, HV1.out]
  rintro e w8 ⟨VG, rfl, G_n, hb8⟩
  obtain ⟨bG, nG, cG, rfl⟩ := G_n.slice
  have W_t14 := W_t13.next hb8
  clear W_t13
  have X0_t14 := X0_t13.next hb8
  clear X0_t13
  have X1_t14 := X1_n.next hb8
  clear X1_n
  have B0_t14 := B0_t13.next hb8
  clear B0_t13
  have Bw_t14 := Bw_t13.next hb8
  clear Bw_t13
  have Bx0_t14 := Bx0_t13.next hb8
  clear Bx0_t13
  have hw_t14 := below_next hw_t13 hb8
  have hs_t14 := hb8.size
  have ge_G : ∀ g, (Value.slice bG nG cG).ownBlock = some g → (w7).heap.size ≤ g := fun g hg => (G_n.block_lt hg).1
  have lt_G : ∀ g, (Value.slice bG nG cG).ownBlock = some g → g < w8.heap.size := fun g hg => (G_n.block_lt hg).2
  have hb_t15 := below_alloc (Below.refl _ w8) (.cells #[.int .i64 vz0, .slice bG nG cG] 29)
  have Bg_t15 := blkA w8 #[.int .i64 vz0, .slice bG nG cG] 29
  have hz_t15 : (w8.alloc (.cells #[.int .i64 vz0, .slice bG nG cG] 29)).heap.size = w8.heap.size + 1 := World.size_alloc _ _
  have W_t16 := W_t14.next hb_t15
  clear W_t14
  have X0_t16 := X0_t14.next hb_t15
  clear X0_t14
  have X1_t16 := X1_t14.next hb_t15
  clear X1_t14
  have G_t16 := G_n.next hb_t15
  clear G_n
  have B0_t16 := B0_t14.next hb_t15
  clear B0_t14
  have Bw_t16 := Bw_t14.next hb_t15
  clear Bw_t14
  have Bx0_t16 := Bx0_t14.next hb_t15
  clear Bx0_t14
  have hw_t16 := below_next hw_t14 hb_t15
  have hs_t16 := hb_t15.size
  have qB00 : (w8.alloc (.cells #[.int .i64 vz0, .slice bG nG cG] 29)).cell? ⟨w.heap.size, 0, none⟩ = some (.int .i64 z0) := by rw [B0_t16.cell]; rfl
  have qB01 : (w8.alloc (.cells #[.int .i64 vz0, .slice bG nG cG] 29)).cell? ⟨w.heap.size, 1, none⟩ = some (.slice A0 l0.length c0) := by rw [B0_t16.cell]; rfl
  have qBw0 : (w8.alloc (.cells #[.int .i64 vz0, .slice bG nG cG] 29)).cell? ⟨w5.heap.size, 0, none⟩ = some (.int .i64 vz0) := by rw [Bw_t16.cell]; rfl
  have qBw1 : (w8.alloc (.cells #[.int .i64 vz0, .slice bG nG cG] 29)).cell? ⟨w5.heap.size, 1, none⟩ = some (.slice bW nW cW) := by rw [Bw_t16.cell]; rfl
  have qBx00 : (w8.alloc (.cells #[.int .i64 vz0, .slice bG nG cG] 29)).cell? ⟨w6.heap.size, 0, none⟩ = some (.int .i64 z0) := by rw [Bx0_t16.cell]; rfl
  have qBx01 : (w8.alloc (.cells #[.int .i64 vz0, .slice bG nG cG] 29)).cell? ⟨w6.heap.size, 1, none⟩ = some (.slice (some ⟨gX0, 0, none⟩) l0.length l0.length) := by rw [Bx0_t16.cell]; rfl
  have qBg0 : (w8.alloc (.cells #[.int .i64 vz0, .slice bG nG cG] 29)).cell? ⟨w8.heap.size, 0, none⟩ = some (.int .i64 vz0) := by rw [Bg_t15.cell]; rfl
  have qBg1 : (w8.alloc (.cells #[.int .i64 vz0, .slice bG nG cG] 29)).cell? ⟨w8.heap.size, 1, none⟩ = some (.slice bG nG cG) := by rw [Bg_t15.cell]; rfl
  go_wp2_with fail
  clear qB00 qB01 qBw0 qBw1 qBx00 qBx01 qBg0 qBg1
  refine (eqVers_c vz0 vz0 _ _ vl0 vl0 _ _ _ G_t16 W_t16 (by omega) (by omega)).mono ?_
  rintro e w9 ⟨rfl, hb9⟩
  rw [HE0.out]
  have W_t17 := W_t16.next hb9
  clear W_t16
  have X0_t17 := X0_t16.next hb9
  clear X0_t16
  have X1_t17 := X1_t16.next hb9
  clear X1_t16
  have G_t17 := G_t16.next hb9
  clear G_t16
  have B0_t17 := B0_t16.next hb9
  clear B0_t16
  have Bw_t17 := Bw_t16.next hb9
  clear Bw_t16
  have Bx0_t17 := Bx0_t16.next hb9
  clear Bx0_t16
  have Bg_t17 := Bg_t15.next hb9
  clear Bg_t15
  have hw_t17 := below_next hw_t16 hb9
  have hs_t17 := hb9.size
  have qB00 : w9.cell? ⟨w.heap.size, 0, none⟩ = some (.int .i64 z0) := by rw [B0_t17.cell]; rfl
  have qB01 : w9.cell? ⟨w.heap.size, 1, none⟩ = some (.slice A0 l0.length c0) := by rw [B0_t17.cell]; rfl
  have qBw0 : w9.cell? ⟨w5.heap.size, 0, none⟩ = some (.int .i64 vz0) := by rw [Bw_t17.cell]; rfl
  have qBw1 : w9.cell? ⟨w5.heap.size, 1, none⟩ = some (.slice bW nW cW) := by rw [Bw_t17.cell]; rfl
  have qBx00 : w9.cell? ⟨w6.heap.size, 0, none⟩ = some (.int .i64 z0) := by rw [Bx0_t17.cell]; rfl
  have qBx01 : w9.cell? ⟨w6.heap.size, 1, none⟩ = some (.slice (some ⟨gX0, 0, none⟩) l0.length l0.length) := by rw [Bx0_t17.cell]; rfl
  have qBg0 : w9.cell? ⟨w8.heap.size, 0, none⟩ = some (.int .i64 vz0) := by rw [Bg_t17.cell]; rfl
  have qBg1 : w9.cell? ⟨w8.heap.size, 1, none⟩ = some (.slice bG nG cG) := by rw [Bg_t17.cell]; rfl
  go_wp2
  clear qB00 qB01 qBw0 qBw1 qBx00 qBx01 qBg0 qBg1
  have hb_t18 : Below w9.heap.size w9 w9.drew := (Below.refl _ _).drew
  have W_t19 := W_t17.next hb_t18
  clear W_t17
  have X0_t19 := X0_t17.next hb_t18
  clear X0_t17
  have X1_t19 := X1_t17.next hb_t18
  clear X1_t17
  have G_t19 := G_t17.next hb_t18
  clear G_t17
  have B0_t19 := B0_t17.next hb_t18
  clear B0_t17
  have Bw_t19 := Bw_t17.next hb_t18
  clear Bw_t17
  have Bx0_t19 := Bx0_t17.next hb_t18
  clear Bx0_t17
  have Bg_t19 := Bg_t17.next hb_t18
  clear Bg_t17
  have hw_t19 := below_next hw_t17 hb_t18
  have hs_t19 := hb_t18.size
  refine wp_region_held_drew (S := (fun W => W.cell? ⟨w.heap.size, 0, none⟩ = some (.int .i64 z0) ∧ W.cell? ⟨w.heap.size, 1, none⟩ = some (.slice A0 l0.length c0) ∧ W.cell? ⟨w5.heap.size, 0, none⟩ = some (.int .i64 vz0) ∧ W.cell? ⟨w5.heap.size, 1, none⟩ = some (.slice bW nW cW) ∧ W.cell? ⟨w6.heap.size, 0, none⟩ = some (.int .i64 z0) ∧ W.cell? ⟨w6.heap.size, 1, none⟩ = some (.slice (some ⟨gX0, 0, none⟩) l0.length l0.length) ∧ W.cell? ⟨w8.heap.size, 0, none⟩ = some (.int .i64 vz0) ∧ W.cell? ⟨w8.heap.size, 1, none⟩ = some (.slice bG nG cG))) (by kernel_rfl) ?_ (fun hHeld => ?_)
  focus ((try dsimp only); (exact ⟨by rw [B0_t19.cell]; rfl, by rw [B0_t19.cell]; rfl, by rw [Bw_t19.cell]; rfl, by rw [Bw_t19.cell]; rfl, by rw [Bx0_t19.cell]; rfl, by rw [Bx0_t19.cell]; rfl, by rw [Bg_t19.cell]; rfl, by rw [Bg_t19.cell]; rfl⟩))
  (refine tkW (i := 0) (v := ?_) (by (simp only [ga, gb, gc]; rfl)) (by kernel_rfl) (by (intro _ _ _ h; exact h)) (by rfl) ?_ (by assumption) ?_; rotate_left; (focus ((intro w hSw; (try dsimp only at hSw); go_simp) <;> with_reducible rfl)); (try simp only [Act.put, pa, pb, pc]))
  (refine tkW (i := 1) (v := ?_) (by (simp only [ga, gb, gc]; rfl)) (by kernel_rfl) (by (intro _ _ _ h; exact h)) (by rfl) ?_ (by assumption) ?_; rotate_left; (focus ((intro w hSw; (try dsimp only at hSw); go_simp) <;> with_reducible rfl)); (try simp only [Act.put, pa, pb, pc]))
  (refine wpAnyH_ready (rs := [2]) (by kernel_rfl) (by simp) ?_; refine AllReadyH.cons (by (simp only [ga, gb, gc]; rfl)) (fun K hK => ?_) AllReadyH.nil; go_simp; (go_at_call 22; refine (toVers_c z0 A0 c0 l0 _ hc0 hlen0 ((hr0.below hw_t19).more hw_t19.size)).mono ?_; rintro e w10 ⟨gZ0, rfl, Z0_n, ge_Z00, lt_Z00, hb10⟩; have W_t20 := W_t19.next hb10; clear W_t19; have X0_t20 := X0_t19.next hb10; clear X0_t19; have X1_t20 := X1_t19.next hb10; clear X1_t19; have G_t20 := G_t19.next hb10; clear G_t19; have B0_t20 := B0_t19.next hb10; clear B0_t19; have Bw_t20 := Bw_t19.next hb10; clear Bw_t19; have Bx0_t20 := Bx0_t19.next hb10; clear Bx0_t19; have Bg_t20 := Bg_t19.next hb10; clear Bg_t19; have hw_t20 := below_next hw_t19 hb10; have hs_t20 := hb10.size; have ge_Z0 : ∀ g, (Value.slice (some ⟨gZ0, 0, none⟩) l0.length l0.length).ownBlock = some g → (w9.drew).heap.size ≤ g := fun g hg => (by have : gZ0 = g := Option.some.inj hg; omega); have lt_Z0 : ∀ g, (Value.slice (some ⟨gZ0, 0, none⟩) l0.length l0.length).ownBlock = some g → g < w10.heap.size := fun g hg => (by have : gZ0 = g := Option.some.inj hg; omega); clear ge_Z00 lt_Z00); go_wp2_with fail; refine hK.out _ _ ?_ (fun hHeld => ?_); (focus ((try dsimp only); (exact ⟨by rw [B0_t20.cell]; rfl, by rw [B0_t20.cell]; rfl, by rw [Bw_t20.cell]; rfl, by rw [Bw_t20.cell]; rfl, by rw [Bx0_t20.cell]; rfl, by rw [Bx0_t20.cell]; rfl, by rw [Bg_t20.cell]; rfl, by rw [Bg_t20.cell]; rfl⟩))); clear hK K; (try simp only [Act.put, pa, pb, pc]))
  (refine wpAnyH_ready (rs := [3]) (by kernel_rfl) (by simp) ?_; refine AllReadyH.cons (by (simp only [ga, gb, gc]; rfl)) (fun K hK => ?_) AllReadyH.nil; go_simp; (go_at_call 24; refine (eqVers_c z0 z0 _ _ l0 l0 _ _ _ X0_t20 Z0_n (by omega) (by omega)).mono ?_; rintro e w11 ⟨rfl, hb11⟩; rw [HA0.out]; have W_t21 := W_t20.next hb11; clear W_t20; have X0_t21 := X0_t20.next hb11; clear X0_t20; have X1_t21 := X1_t20.next hb11; clear X1_t20; have G_t21 := G_t20.next hb11; clear G_t20; have Z0_t21 := Z0_n.next hb11; clear Z0_n; have B0_t21 := B0_t20.next hb11; clear B0_t20; have Bw_t21 := Bw_t20.next hb11; clear Bw_t20; have Bx0_t21 := Bx0_t20.next hb11; clear Bx0_t20; have Bg_t21 := Bg_t20.next hb11; clear Bg_t20; have hw_t21 := below_next hw_t20 hb11; have hs_t21 := hb11.size); go_wp2_with fail; refine hK.out _ _ ?_ (fun hHeld => ?_); (focus ((try dsimp only); (exact ⟨by rw [B0_t21.cell]; rfl, by rw [B0_t21.cell]; rfl, by rw [Bw_t21.cell]; rfl, by rw [Bw_t21.cell]; rfl, by rw [Bx0_t21.cell]; rfl, by rw [Bx0_t21.cell]; rfl, by rw [Bg_t21.cell]; rfl, by rw [Bg_t21.cell]; rfl⟩))); clear hK K; (try simp only [Act.put, pa, pb, pc]))
  (refine tkW (i := 4) (v := ?_) (by (simp only [ga, gb, gc]; rfl)) (by kernel_rfl) (by (intro _ _ _ h; exact h)) (by rfl) ?_ (by assumption) ?_; rotate_left; (focus ((intro w hSw; (try dsimp only at hSw); go_simp) <;> with_reducible rfl)); (try simp only [Act.put, pa, pb, pc]))
  refine wpAnyH_done (by kernel_rfl) ?_ _
  clear Z0_t21
  have qB00 : w11.cell? ⟨w.heap.size, 0, none⟩ = some (.int .i64 z0) := by rw [B0_t21.cell]; rfl
  have qB01 : w11.cell? ⟨w.heap.size, 1, none⟩ = some (.slice A0 l0.length c0) := by rw [B0_t21.cell]; rfl
  have qBw0 : w11.cell? ⟨w5.heap.size, 0, none⟩ = some (.int .i64 vz0) := by rw [Bw_t21.cell]; rfl
  have qBw1 : w11.cell? ⟨w5.heap.size, 1, none⟩ = some (.slice bW nW cW) := by rw [Bw_t21.cell]; rfl
  have qBx00 : w11.cell? ⟨w6.heap.size, 0, none⟩ = some (.int .i64 z0) := by rw [Bx0_t21.cell]; rfl
  have qBx01 : w11.cell? ⟨w6.heap.size, 1, none⟩ = some (.slice (some ⟨gX0, 0, none⟩) l0.length l0.length) := by rw [Bx0_t21.cell]; rfl
  have qBg0 : w11.cell? ⟨w8.heap.size, 0, none⟩ = some (.int .i64 vz0) := by rw [Bg_t21.cell]; rfl
  have qBg1 : w11.cell? ⟨w8.heap.size, 1, none⟩ = some (.slice bG nG cG) := by rw [Bg_t21.cell]; rfl
  go_wp2_with fail
  clear qB00 qB01 qBw0 qBw1 qBx00 qBx01 qBg0 qBg1
  refine (toWriteOwn_c A1 c1 l1 _ hc1 hlen1 ((hr1.below hw_t21).more hw_t21.size)).mono ?_
  rintro e w12 ⟨gZ1, rfl, Z1_n, ge_Z10, lt_Z10, hb12⟩
  have W_t22 := W_t21.next hb12
  clear W_t21
  have X0_t22 := X0_t21.next hb12
  clear X0_t21
  have X1_t22 := X1_t21.next hb12
  clear X1_t21
  have G_t22 := G_t21.next hb12
  clear G_t21
  have B0_t22 := B0_t21.next hb12
  clear B0_t21
  have Bw_t22 := Bw_t21.next hb12
  clear Bw_t21
  have Bx0_t22 := Bx0_t21.next hb12
  clear Bx0_t21
  have Bg_t22 := Bg_t21.next hb12
  clear Bg_t21
  have hw_t22 := below_next hw_t21 hb12
  have hs_t22 := hb12.size
  have ge_Z1 : ∀ g, (Value.slice (some ⟨gZ1, 0, none⟩) l1.length l1.length).ownBlock = some g → (w11).heap.size ≤ g := fun g hg => (by have : gZ1 = g := Option.some.inj hg; omega)
  have lt_Z1 : ∀ g, (Value.slice (some ⟨gZ1, 0, none⟩) l1.length l1.length).ownBlock = some g → g < w12.heap.size := fun g hg => (by have : gZ1 = g := Option.some.inj hg; omega)
  clear ge_Z10 lt_Z10
  have qB00 : w12.cell? ⟨w.heap.size, 0, none⟩ = some (.int .i64 z0) := by rw [B0_t22.cell]; rfl
  have qB01 : w12.cell? ⟨w.heap.size, 1, none⟩ = some (.slice A0 l0.length c0) := by rw [B0_t22.cell]; rfl
  have qBw0 : w12.cell? ⟨w5.heap.size, 0, none⟩ = some (.int .i64 vz0) := by rw [Bw_t22.cell]; rfl
  have qBw1 : w12.cell? ⟨w5.heap.size, 1, none⟩ = some (.slice bW nW cW) := by rw [Bw_t22.cell]; rfl
  have qBx00 : w12.cell? ⟨w6.heap.size, 0, none⟩ = some (.int .i64 z0) := by rw [Bx0_t22.cell]; rfl
  have qBx01 : w12.cell? ⟨w6.heap.size, 1, none⟩ = some (.slice (some ⟨gX0, 0, none⟩) l0.length l0.length) := by rw [Bx0_t22.cell]; rfl
  have qBg0 : w12.cell? ⟨w8.heap.size, 0, none⟩ = some (.int .i64 vz0) := by rw [Bg_t22.cell]; rfl
  have qBg1 : w12.cell? ⟨w8.heap.size, 1, none⟩ = some (.slice bG nG cG) := by rw [Bg_t22.cell]; rfl
  go_wp2_with fail
  clear qB00 qB01 qBw0 qBw1 qBx00 qBx01 qBg0 qBg1
  refine (eqWriteOwn_c _ _ l1 l1 _ _ _ X1_t22 Z1_n (by omega) (by omega)).mono ?_
  rintro e w13 ⟨rfl, hb13⟩
  rw [HA1.out]
  have W_t23 := W_t22.next hb13
  clear W_t22
  have X0_t23 := X0_t22.next hb13
  clear X0_t22
  have X1_t23 := X1_t22.next hb13
  clear X1_t22
  have G_t23 := G_t22.next hb13
  clear G_t22
  have Z1_t23 := Z1_n.next hb13
  clear Z1_n
  have B0_t23 := B0_t22.next hb13
  clear B0_t22
  have Bw_t23 := Bw_t22.next hb13
  clear Bw_t22
  have Bx0_t23 := Bx0_t22.next hb13
  clear Bx0_t22
  have Bg_t23 := Bg_t22.next hb13
  clear Bg_t22
  have hw_t23 := below_next hw_t22 hb13
  have hs_t23 := hb13.size
  clear Z1_t23
  have qB00 : w13.cell? ⟨w.heap.size, 0, none⟩ = some (.int .i64 z0) := by rw [B0_t23.cell]; rfl
  have qB01 : w13.cell? ⟨w.heap.size, 1, none⟩ = some (.slice A0 l0.length c0) := by rw [B0_t23.cell]; rfl
  have qBw0 : w13.cell? ⟨w5.heap.size, 0, none⟩ = some (.int .i64 vz0) := by rw [Bw_t23.cell]; rfl
  have qBw1 : w13.cell? ⟨w5.heap.size, 1, none⟩ = some (.slice bW nW cW) := by rw [Bw_t23.cell]; rfl
  have qBx00 : w13.cell? ⟨w6.heap.size, 0, none⟩ = some (.int .i64 z0) := by rw [Bx0_t23.cell]; rfl
  have qBx01 : w13.cell? ⟨w6.heap.size, 1, none⟩ = some (.slice (some ⟨gX0, 0, none⟩) l0.length l0.length) := by rw [Bx0_t23.cell]; rfl
  have qBg0 : w13.cell? ⟨w8.heap.size, 0, none⟩ = some (.int .i64 vz0) := by rw [Bg_t23.cell]; rfl
  have qBg1 : w13.cell? ⟨w8.heap.size, 1, none⟩ = some (.slice bG nG cG) := by rw [Bg_t23.cell]; rfl
  go_wp2_with fail
  clear qB00 qB01 qBw0 qBw1 qBx00 qBx01 qBg0 qBg1
  refine (markVers_c z0 _ l0 _ (1) _ X0_t23 (by omega) (by omega)).mono ?_
  rintro e w14 ⟨rfl, hM14, hg14⟩
  have hw_t24 : Below w.heap.size w w14 := belowGrow hw_t23 hg14 (fun k hk => by have := ge_X0 k hk; omega)
  have hs_t24 := hg14.size
  have W_t24 := W_t23.kept hg14 (fun g hg h => by have h1 := ge_X0 g h.symm; have h2 := lt_X0 g h.symm; have h3 := ge_W g hg; have h4 := lt_W g hg; omega)
  clear W_t23
  have X1_t24 := X1_t23.kept hg14 (fun g hg h => by have h1 := ge_X0 g h.symm; have h2 := lt_X0 g h.symm; have h3 := ge_X1 g hg; have h4 := lt_X1 g hg; omega)
  clear X1_t23
  have G_t24 := G_t23.kept hg14 (fun g hg h => by have h1 := ge_X0 g h.symm; have h2 := lt_X0 g h.symm; have h3 := ge_G g hg; have h4 := lt_G g hg; omega)
  clear G_t23
  have B0_t24 := B0_t23.grown hg14 (fun h => by have h1 := ge_X0 _ h.symm; have h2 := lt_X0 _ h.symm; omega)
  clear B0_t23
  have Bw_t24 := Bw_t23.grown hg14 (fun h => by have h1 := ge_X0 _ h.symm; have h2 := lt_X0 _ h.symm; omega)
  clear Bw_t23
  have Bx0_t24 := Bx0_t23.grown hg14 (fun h => by have h1 := ge_X0 _ h.symm; have h2 := lt_X0 _ h.symm; omega)
  clear Bx0_t23
  have Bg_t24 := Bg_t23.grown hg14 (fun h => by have h1 := ge_X0 _ h.symm; have h2 := lt_X0 _ h.symm; omega)
  clear Bg_t23
  clear X0_t23 hg14
  clear hM14
  have qB00 : w14.cell? ⟨w.heap.size, 0, none⟩ = some (.int .i64 z0) := by rw [B0_t24.cell]; rfl
  have qB01 : w14.cell? ⟨w.heap.size, 1, none⟩ = some (.slice A0 l0.length c0) := by rw [B0_t24.cell]; rfl
  have qBw0 : w14.cell? ⟨w5.heap.size, 0, none⟩ = some (.int .i64 vz0) := by rw [Bw_t24.cell]; rfl
  have qBw1 : w14.cell? ⟨w5.heap.size, 1, none⟩ = some (.slice bW nW cW) := by rw [Bw_t24.cell]; rfl
  have qBx00 : w14.cell? ⟨w6.heap.size, 0, none⟩ = some (.int .i64 z0) := by rw [Bx0_t24.cell]; rfl
  have qBx01 : w14.cell? ⟨w6.heap.size, 1, none⟩ = some (.slice (some ⟨gX0, 0, none⟩) l0.length l0.length) := by rw [Bx0_t24.cell]; rfl
  have qBg0 : w14.cell? ⟨w8.heap.size, 0, none⟩ = some (.int .i64 vz0) := by rw [Bg_t24.cell]; rfl
  have qBg1 : w14.cell? ⟨w8.heap.size, 1, none⟩ = some (.slice bG nG cG) := by rw [Bg_t24.cell]; rfl
  go_wp2_with fail
  clear qB00 qB01 qBw0 qBw1 qBx00 qBx01 qBg0 qBg1
  refine (markX_c _ l1 _ (1 + 4 * l0.length) _ X1_t24 (by omega) (by omega)).mono ?_
  rintro e w15 ⟨rfl, hM15, hg15⟩
  have hw_t25 : Below w.heap.size w w15 := belowGrow hw_t24 hg15 (fun k hk => by have := ge_X1 k hk; omega)
  have hs_t25 := hg15.size
  have W_t25 := W_t24.kept hg15 (fun g hg h => by have h1 := ge_X1 g h.symm; have h2 := lt_X1 g h.symm; have h3 := ge_W g hg; have h4 := lt_W g hg; omega)
  clear W_t24
  have G_t25 := G_t24.kept hg15 (fun g hg h => by have h1 := ge_X1 g h.symm; have h2 := lt_X1 g h.symm; have h3 := ge_G g hg; have h4 := lt_G g hg; omega)
  clear G_t24
  have B0_t25 := B0_t24.grown hg15 (fun h => by have h1 := ge_X1 _ h.symm; have h2 := lt_X1 _ h.symm; omega)
  clear B0_t24
  have Bw_t25 := Bw_t24.grown hg15 (fun h => by have h1 := ge_X1 _ h.symm; have h2 := lt_X1 _ h.symm; omega)
  clear Bw_t24
  have Bx0_t25 := Bx0_t24.grown hg15 (fun h => by have h1 := ge_X1 _ h.symm; have h2 := lt_X1 _ h.symm; omega)
  clear Bx0_t24
  have Bg_t25 := Bg_t24.grown hg15 (fun h => by have h1 := ge_X1 _ h.symm; have h2 := lt_X1 _ h.symm; omega)
  clear Bg_t24
  clear X1_t24 hg15
  clear hM15
  have qB00 : w15.cell? ⟨w.heap.size, 0, none⟩ = some (.int .i64 z0) := by rw [B0_t25.cell]; rfl
  have qB01 : w15.cell? ⟨w.heap.size, 1, none⟩ = some (.slice A0 l0.length c0) := by rw [B0_t25.cell]; rfl
  have qBw0 : w15.cell? ⟨w5.heap.size, 0, none⟩ = some (.int .i64 vz0) := by rw [Bw_t25.cell]; rfl
  have qBw1 : w15.cell? ⟨w5.heap.size, 1, none⟩ = some (.slice bW nW cW) := by rw [Bw_t25.cell]; rfl
  have qBx00 : w15.cell? ⟨w6.heap.size, 0, none⟩ = some (.int .i64 z0) := by rw [Bx0_t25.cell]; rfl
  have qBx01 : w15.cell? ⟨w6.heap.size, 1, none⟩ = some (.slice (some ⟨gX0, 0, none⟩) l0.length l0.length) := by rw [Bx0_t25.cell]; rfl
  have qBg0 : w15.cell? ⟨w8.heap.size, 0, none⟩ = some (.int .i64 vz0) := by rw [Bg_t25.cell]; rfl
  have qBg1 : w15.cell? ⟨w8.heap.size, 1, none⟩ = some (.slice bG nG cG) := by rw [Bg_t25.cell]; rfl
  go_wp2_with fail
  clear qB00 qB01 qBw0 qBw1 qBx00 qBx01 qBg0 qBg1
  refine (eqVers_c vz0 vz0 _ _ vl0 vl0 _ _ _ G_t25 W_t25 (by omega) (by omega)).mono ?_
  rintro e w16 ⟨rfl, hb16⟩
  rw [HE0.out]
  have W_t26 := W_t25.next hb16
  clear W_t25
  have G_t26 := G_t25.next hb16
  clear G_t25
  have B0_t26 := B0_t25.next hb16
  clear B0_t25
  have Bw_t26 := Bw_t25.next hb16
  clear Bw_t25
  have Bx0_t26 := Bx0_t25.next hb16
  clear Bx0_t25
  have Bg_t26 := Bg_t25.next hb16
  clear Bg_t25
  have hw_t26 := below_next hw_t25 hb16
  have hs_t26 := hb16.size
  have qB00 : w16.cell? ⟨w.heap.size, 0, none⟩ = some (.int .i64 z0) := by rw [B0_t26.cell]; rfl
  have qB01 : w16.cell? ⟨w.heap.size, 1, none⟩ = some (.slice A0 l0.length c0) := by rw [B0_t26.cell]; rfl
  have qBw0 : w16.cell? ⟨w5.heap.size, 0, none⟩ = some (.int .i64 vz0) := by rw [Bw_t26.cell]; rfl
  have qBw1 : w16.cell? ⟨w5.heap.size, 1, none⟩ = some (.slice bW nW cW) := by rw [Bw_t26.cell]; rfl
  have qBx00 : w16.cell? ⟨w6.heap.size, 0, none⟩ = some (.int .i64 z0) := by rw [Bx0_t26.cell]; rfl
  have qBx01 : w16.cell? ⟨w6.heap.size, 1, none⟩ = some (.slice (some ⟨gX0, 0, none⟩) l0.length l0.length) := by rw [Bx0_t26.cell]; rfl
  have qBg0 : w16.cell? ⟨w8.heap.size, 0, none⟩ = some (.int .i64 vz0) := by rw [Bg_t26.cell]; rfl
  have qBg1 : w16.cell? ⟨w8.heap.size, 1, none⟩ = some (.slice bG nG cG) := by rw [Bg_t26.cell]; rfl
  go_wp2_with fail
  clear qB00 qB01 qBw0 qBw1 qBx00 qBx01 qBg0 qBg1
  refine (markVers_c vz0 _ vl0 _ 1 _ G_t26 (by omega) (by omega)).mono ?_
  rintro e w17 ⟨rfl, hM17, hg17⟩
  have hw_t27 : Below w.heap.size w w17 := belowGrow hw_t26 hg17 (fun k hk => by have := ge_G k hk; omega)
  have hs_t27 := hg17.size
  have W_t27 := W_t26.kept hg17 (fun g hg h => by have h1 := ge_G g h.symm; have h2 := lt_G g h.symm; have h3 := ge_W g hg; have h4 := lt_W g hg; omega)
  clear W_t26
  have B0_t27 := B0_t26.grown hg17 (fun h => by have h1 := ge_G _ h.symm; have h2 := lt_G _ h.symm; omega)
  clear B0_t26
  have Bw_t27 := Bw_t26.grown hg17 (fun h => by have h1 := ge_G _ h.symm; have h2 := lt_G _ h.symm; omega)
  clear Bw_t26
  have Bx0_t27 := Bx0_t26.grown hg17 (fun h => by have h1 := ge_G _ h.symm; have h2 := lt_G _ h.symm; omega)
  clear Bx0_t26
  have Bg_t27 := Bg_t26.grown hg17 (fun h => by have h1 := ge_G _ h.symm; have h2 := lt_G _ h.symm; omega)
  clear Bg_t26
  clear G_t26 hg17
  have qB00 : w17.cell? ⟨w.heap.size, 0, none⟩ = some (.int .i64 z0) := by rw [B0_t27.cell]; rfl
  have qB01 : w17.cell? ⟨w.heap.size, 1, none⟩ = some (.slice A0 l0.length c0) := by rw [B0_t27.cell]; rfl
  have qBw0 : w17.cell? ⟨w5.heap.size, 0, none⟩ = some (.int .i64 vz0) := by rw [Bw_t27.cell]; rfl
  have qBw1 : w17.cell? ⟨w5.heap.size, 1, none⟩ = some (.slice bW nW cW) := by rw [Bw_t27.cell]; rfl
  have qBx00 : w17.cell? ⟨w6.heap.size, 0, none⟩ = some (.int .i64 z0) := by rw [Bx0_t27.cell]; rfl
  have qBx01 : w17.cell? ⟨w6.heap.size, 1, none⟩ = some (.slice (some ⟨gX0, 0, none⟩) l0.length l0.length) := by rw [Bx0_t27.cell]; rfl
  have qBg0 : w17.cell? ⟨w8.heap.size, 0, none⟩ = some (.int .i64 vz0) := by rw [Bg_t27.cell]; rfl
  have qBg1 : w17.cell? ⟨w8.heap.size, 1, none⟩ = some (.slice bG nG cG) := by rw [Bg_t27.cell]; rfl
  go_wp2_with fail
  clear qB00 qB01 qBw0 qBw1 qBx00 qBx01 qBg0 qBg1
  refine (heldVers_c vz0 _ vl0.length _ 1 _ hM17 (by omega) (by omega)).mono ?_
  rintro e w18 ⟨rfl, hb18⟩
  have W_t28 := W_t27.next hb18
  clear W_t27
  have G_t28 := hM17.next hb18
  clear hM17
  have B0_t28 := B0_t27.next hb18
  clear B0_t27
  have Bw_t28 := Bw_t27.next hb18
  clear Bw_t27
  have Bx0_t28 := Bx0_t27.next hb18
  clear Bx0_t27
  have Bg_t28 := Bg_t27.next hb18
  clear Bg_t27
  have hw_t28 := below_next hw_t27 hb18
  have hs_t28 := hb18.size
  have qB00 : w18.cell? ⟨w.heap.size, 0, none⟩ = some (.int .i64 z0) := by rw [B0_t28.cell]; rfl
  have qB01 : w18.cell? ⟨w.heap.size, 1, none⟩ = some (.slice A0 l0.length c0) := by rw [B0_t28.cell]; rfl
  have qBw0 : w18.cell? ⟨w5.heap.size, 0, none⟩ = some (.int .i64 vz0) := by rw [Bw_t28.cell]; rfl
  have qBw1 : w18.cell? ⟨w5.heap.size, 1, none⟩ = some (.slice bW nW cW) := by rw [Bw_t28.cell]; rfl
  have qBx00 : w18.cell? ⟨w6.heap.size, 0, none⟩ = some (.int .i64 z0) := by rw [Bx0_t28.cell]; rfl
  have qBx01 : w18.cell? ⟨w6.heap.size, 1, none⟩ = some (.slice (some ⟨gX0, 0, none⟩) l0.length l0.length) := by rw [Bx0_t28.cell]; rfl
  have qBg0 : w18.cell? ⟨w8.heap.size, 0, none⟩ = some (.int .i64 vz0) := by rw [Bg_t28.cell]; rfl
  have qBg1 : w18.cell? ⟨w8.heap.size, 1, none⟩ = some (.slice bG nG cG) := by rw [Bg_t28.cell]; rfl
  go_wp2_with fail
  clear qB00 qB01 qBw0 qBw1 qBx00 qBx01 qBg0 qBg1
  refine (toVers_c z0 A0 c0 l0 _ hc0 hlen0 ((hr0.below hw_t28).more hw_t28.size)).mono ?_
  rintro e w19 ⟨gU0, rfl, U0_n, ge_U00, lt_U00, hb19⟩
  have W_t29 := W_t28.next hb19
  clear W_t28
  have G_t29 := G_t28.next hb19
  clear G_t28
  have B0_t29 := B0_t28.next hb19
  clear B0_t28
  have Bw_t29 := Bw_t28.next hb19
  clear Bw_t28
  have Bx0_t29 := Bx0_t28.next hb19
  clear Bx0_t28
  have Bg_t29 := Bg_t28.next hb19
  clear Bg_t28
  have hw_t29 := below_next hw_t28 hb19
  have hs_t29 := hb19.size
  have ge_U0 : ∀ g, (Value.slice (some ⟨gU0, 0, none⟩) l0.length l0.length).ownBlock = some g → (w18).heap.size ≤ g := fun g hg => (by have : gU0 = g := Option.some.inj hg; omega)
  have lt_U0 : ∀ g, (Value.slice (some ⟨gU0, 0, none⟩) l0.length l0.length).ownBlock = some g → g < w19.heap.size := fun g hg => (by have : gU0 = g := Option.some.inj hg; omega)
  clear ge_U00 lt_U00
  have qB00 : w19.cell? ⟨w.heap.size, 0, none⟩ = some (.int .i64 z0) := by rw [B0_t29.cell]; rfl
  have qB01 : w19.cell? ⟨w.heap.size, 1, none⟩ = some (.slice A0 l0.length c0) := by rw [B0_t29.cell]; rfl
  have qBw0 : w19.cell? ⟨w5.heap.size, 0, none⟩ = some (.int .i64 vz0) := by rw [Bw_t29.cell]; rfl
  have qBw1 : w19.cell? ⟨w5.heap.size, 1, none⟩ = some (.slice bW nW cW) := by rw [Bw_t29.cell]; rfl
  have qBx00 : w19.cell? ⟨w6.heap.size, 0, none⟩ = some (.int .i64 z0) := by rw [Bx0_t29.cell]; rfl
  have qBx01 : w19.cell? ⟨w6.heap.size, 1, none⟩ = some (.slice (some ⟨gX0, 0, none⟩) l0.length l0.length) := by rw [Bx0_t29.cell]; rfl
  have qBg0 : w19.cell? ⟨w8.heap.size, 0, none⟩ = some (.int .i64 vz0) := by rw [Bg_t29.cell]; rfl
  have qBg1 : w19.cell? ⟨w8.heap.size, 1, none⟩ = some (.slice bG nG cG) := by rw [Bg_t29.cell]; rfl
  go_wp2_with fail
  clear qB00 qB01 qBw0 qBw1 qBx00 qBx01 qBg0 qBg1
  refine (toWriteOwn_c A1 c1 l1 _ hc1 hlen1 ((hr1.below hw_t29).more hw_t29.size)).mono ?_
  rintro e w20 ⟨gU1, rfl, U1_n, ge_U10, lt_U10, hb20⟩
  have W_t30 := W_t29.next hb20
  clear W_t29
  have G_t30 := G_t29.next hb20
  clear G_t29
  have U0_t30 := U0_n.next hb20
  clear U0_n
  have B0_t30 := B0_t29.next hb20
  clear B0_t29
  have Bw_t30 := Bw_t29.next hb20
  clear Bw_t29
  have Bx0_t30 := Bx0_t29.next hb20
  clear Bx0_t29
  have Bg_t30 := Bg_t29.next hb20
  clear Bg_t29
  have hw_t30 := below_next hw_t29 hb20
  have hs_t30 := hb20.size
  have ge_U1 : ∀ g, (Value.slice (some ⟨gU1, 0, none⟩) l1.length l1.length).ownBlock = some g → (w19).heap.size ≤ g := fun g hg => (by have : gU1 = g := Option.some.inj hg; omega)
  have lt_U1 : ∀ g, (Value.slice (some ⟨gU1, 0, none⟩) l1.length l1.length).ownBlock = some g → g < w20.heap.size := fun g hg => (by have : gU1 = g := Option.some.inj hg; omega)
  clear ge_U10 lt_U10
  have qB00 : w20.cell? ⟨w.heap.size, 0, none⟩ = some (.int .i64 z0) := by rw [B0_t30.cell]; rfl
  have qB01 : w20.cell? ⟨w.heap.size, 1, none⟩ = some (.slice A0 l0.length c0) := by rw [B0_t30.cell]; rfl
  have qBw0 : w20.cell? ⟨w5.heap.size, 0, none⟩ = some (.int .i64 vz0) := by rw [Bw_t30.cell]; rfl
  have qBw1 : w20.cell? ⟨w5.heap.size, 1, none⟩ = some (.slice bW nW cW) := by rw [Bw_t30.cell]; rfl
  have qBx00 : w20.cell? ⟨w6.heap.size, 0, none⟩ = some (.int .i64 z0) := by rw [Bx0_t30.cell]; rfl
  have qBx01 : w20.cell? ⟨w6.heap.size, 1, none⟩ = some (.slice (some ⟨gX0, 0, none⟩) l0.length l0.length) := by rw [Bx0_t30.cell]; rfl
  have qBg0 : w20.cell? ⟨w8.heap.size, 0, none⟩ = some (.int .i64 vz0) := by rw [Bg_t30.cell]; rfl
  have qBg1 : w20.cell? ⟨w8.heap.size, 1, none⟩ = some (.slice bG nG cG) := by rw [Bg_t30.cell]; rfl
  go_wp2_with fail
  clear qB00 qB01 qBw0 qBw1 qBx00 qBx01 qBg0 qBg1
  refine (implVersDoO U0_t30 U1_n hf0 hf1 hlen0 hlen1).mono ?_
  rw [HZ0.out, HV0.out, HV1.out]
  rintro e w21 ⟨VHh, rfl, Hh_n, hb21⟩
  obtain ⟨bHh, nHh, cHh, rfl⟩ := Hh_n.slice
  have W_t31 := W_t30.next hb21
  clear W_t30
  have G_t31 := G_t30.next hb21
  clear G_t30
  have U0_t31 := U0_t30.next hb21
  clear U0_t30
  have U1_t31 := U1_n.next hb21
  clear U1_n
  have B0_t31 := B0_t30.next hb21
  clear B0_t30
  have Bw_t31 := Bw_t30.next hb21
  clear Bw_t30
  have Bx0_t31 := Bx0_t30.next hb21
  clear Bx0_t30
  have Bg_t31 := Bg_t30.next hb21
  clear Bg_t30
  have hw_t31 := below_next hw_t30 hb21
  have hs_t31 := hb21.size
  have ge_Hh : ∀ g, (Value.slice bHh nHh cHh).ownBlock = some g → (w20).heap.size ≤ g := fun g hg => (Hh_n.block_lt hg).1
  have lt_Hh : ∀ g, (Value.slice bHh nHh cHh).ownBlock = some g → g < w21.heap.size := fun g hg => (Hh_n.block_lt hg).2
  have hb_t32 := below_alloc (Below.refl _ w21) (.cells #[.int .i64 vz0, .slice bHh nHh cHh] 29)
  have Bh_t32 := blkA w21 #[.int .i64 vz0, .slice bHh nHh cHh] 29
  have hz_t32 : (w21.alloc (.cells #[.int .i64 vz0, .slice bHh nHh cHh] 29)).heap.size = w21.heap.size + 1 := World.size_alloc _ _
  have W_t33 := W_t31.next hb_t32
  clear W_t31
  have G_t33 := G_t31.next hb_t32
  clear G_t31
  have U0_t33 := U0_t31.next hb_t32
  clear U0_t31
  have U1_t33 := U1_t31.next hb_t32
  clear U1_t31
  have Hh_t33 := Hh_n.next hb_t32
  clear Hh_n
  have B0_t33 := B0_t31.next hb_t32
  clear B0_t31
  have Bw_t33 := Bw_t31.next hb_t32
  clear Bw_t31
  have Bx0_t33 := Bx0_t31.next hb_t32
  clear Bx0_t31
  have Bg_t33 := Bg_t31.next hb_t32
  clear Bg_t31
  have hw_t33 := below_next hw_t31 hb_t32
  have hs_t33 := hb_t32.size
  clear U0_t33
  clear U1_t33
  have qB00 : (w21.alloc (.cells #[.int .i64 vz0, .slice bHh nHh cHh] 29)).cell? ⟨w.heap.size, 0, none⟩ = some (.int .i64 z0) := by rw [B0_t33.cell]; rfl
  have qB01 : (w21.alloc (.cells #[.int .i64 vz0, .slice bHh nHh cHh] 29)).cell? ⟨w.heap.size, 1, none⟩ = some (.slice A0 l0.length c0) := by rw [B0_t33.cell]; rfl
  have qBw0 : (w21.alloc (.cells #[.int .i64 vz0, .slice bHh nHh cHh] 29)).cell? ⟨w5.heap.size, 0, none⟩ = some (.int .i64 vz0) := by rw [Bw_t33.cell]; rfl
  have qBw1 : (w21.alloc (.cells #[.int .i64 vz0, .slice bHh nHh cHh] 29)).cell? ⟨w5.heap.size, 1, none⟩ = some (.slice bW nW cW) := by rw [Bw_t33.cell]; rfl
  have qBx00 : (w21.alloc (.cells #[.int .i64 vz0, .slice bHh nHh cHh] 29)).cell? ⟨w6.heap.size, 0, none⟩ = some (.int .i64 z0) := by rw [Bx0_t33.cell]; rfl
  have qBx01 : (w21.alloc (.cells #[.int .i64 vz0, .slice bHh nHh cHh] 29)).cell? ⟨w6.heap.size, 1, none⟩ = some (.slice (some ⟨gX0, 0, none⟩) l0.length l0.length) := by rw [Bx0_t33.cell]; rfl
  have qBg0 : (w21.alloc (.cells #[.int .i64 vz0, .slice bHh nHh cHh] 29)).cell? ⟨w8.heap.size, 0, none⟩ = some (.int .i64 vz0) := by rw [Bg_t33.cell]; rfl
  have qBg1 : (w21.alloc (.cells #[.int .i64 vz0, .slice bHh nHh cHh] 29)).cell? ⟨w8.heap.size, 1, none⟩ = some (.slice bG nG cG) := by rw [Bg_t33.cell]; rfl
  have qBh0 : (w21.alloc (.cells #[.int .i64 vz0, .slice bHh nHh cHh] 29)).cell? ⟨w21.heap.size, 0, none⟩ = some (.int .i64 vz0) := by rw [Bh_t32.cell]; rfl
  have qBh1 : (w21.alloc (.cells #[.int .i64 vz0, .slice bHh nHh cHh] 29)).cell? ⟨w21.heap.size, 1, none⟩ = some (.slice bHh nHh cHh) := by rw [Bh_t32.cell]; rfl
  go_wp2_with fail
  clear qB00 qB01 qBw0 qBw1 qBx00 qBx01 qBg0 qBg1 qBh0 qBh1
  refine (eqVers_c vz0 vz0 _ _ vl0 vl0 _ _ _ Hh_t33 W_t33 (by omega) (by omega)).mono ?_
  rintro e w22 ⟨rfl, hb22⟩
  rw [HE0.out]
  have W_t34 := W_t33.next hb22
  clear W_t33
  have G_t34 := G_t33.next hb22
  clear G_t33
  have Hh_t34 := Hh_t33.next hb22
  clear Hh_t33
  have B0_t34 := B0_t33.next hb22
  clear B0_t33
  have Bw_t34 := Bw_t33.next hb22
  clear Bw_t33
  have Bx0_t34 := Bx0_t33.next hb22
  clear Bx0_t33
  have Bg_t34 := Bg_t33.next hb22
  clear Bg_t33
  have Bh_t34 := Bh_t32.next hb22
  clear Bh_t32
  have hw_t34 := below_next hw_t33 hb22
  have hs_t34 := hb22.size
  have qB00 : w22.cell? ⟨w.heap.size, 0, none⟩ = some (.int .i64 z0) := by rw [B0_t34.cell]; rfl
  have qB01 : w22.cell? ⟨w.heap.size, 1, none⟩ = some (.slice A0 l0.length c0) := by rw [B0_t34.cell]; rfl
  have qBw0 : w22.cell? ⟨w5.heap.size, 0, none⟩ = some (.int .i64 vz0) := by rw [Bw_t34.cell]; rfl
  have qBw1 : w22.cell? ⟨w5.heap.size, 1, none⟩ = some (.slice bW nW cW) := by rw [Bw_t34.cell]; rfl
  have qBx00 : w22.cell? ⟨w6.heap.size, 0, none⟩ = some (.int .i64 z0) := by rw [Bx0_t34.cell]; rfl
  have qBx01 : w22.cell? ⟨w6.heap.size, 1, none⟩ = some (.slice (some ⟨gX0, 0, none⟩) l0.length l0.length) := by rw [Bx0_t34.cell]; rfl
  have qBg0 : w22.cell? ⟨w8.heap.size, 0, none⟩ = some (.int .i64 vz0) := by rw [Bg_t34.cell]; rfl
  have qBg1 : w22.cell? ⟨w8.heap.size, 1, none⟩ = some (.slice bG nG cG) := by rw [Bg_t34.cell]; rfl
  have qBh0 : w22.cell? ⟨w21.heap.size, 0, none⟩ = some (.int .i64 vz0) := by rw [Bh_t34.cell]; rfl
  have qBh1 : w22.cell? ⟨w21.heap.size, 1, none⟩ = some (.slice bHh nHh cHh) := by rw [Bh_t34.cell]; rfl
  go_wp2_with fail
  clear qB00 qB01 qBw0 qBw1 qBx00 qBx01 qBg0 qBg1 qBh0 qBh1
  refine (heldVers_c vz0 _ vl0.length _ 1 _ G_t34 (by omega) (by omega)).mono ?_
  rintro e w23 ⟨rfl, hb23⟩
  have W_t35 := W_t34.next hb23
  clear W_t34
  have G_t35 := G_t34.next hb23
  clear G_t34
  have Hh_t35 := Hh_t34.next hb23
  clear Hh_t34
  have B0_t35 := B0_t34.next hb23
  clear B0_t34
  have Bw_t35 := Bw_t34.next hb23
  clear Bw_t34
  have Bx0_t35 := Bx0_t34.next hb23
  clear Bx0_t34
  have Bg_t35 := Bg_t34.next hb23
  clear Bg_t34
  have Bh_t35 := Bh_t34.next hb23
  clear Bh_t34
  have hw_t35 := below_next hw_t34 hb23
  have hs_t35 := hb23.size
  have qB00 : w23.cell? ⟨w.heap.size, 0, none⟩ = some (.int .i64 z0) := by rw [B0_t35.cell]; rfl
  have qB01 : w23.cell? ⟨w.heap.size, 1, none⟩ = some (.slice A0 l0.length c0) := by rw [B0_t35.cell]; rfl
  have qBw0 : w23.cell? ⟨w5.heap.size, 0, none⟩ = some (.int .i64 vz0) := by rw [Bw_t35.cell]; rfl
  have qBw1 : w23.cell? ⟨w5.heap.size, 1, none⟩ = some (.slice bW nW cW) := by rw [Bw_t35.cell]; rfl
  have qBx00 : w23.cell? ⟨w6.heap.size, 0, none⟩ = some (.int .i64 z0) := by rw [Bx0_t35.cell]; rfl
  have qBx01 : w23.cell? ⟨w6.heap.size, 1, none⟩ = some (.slice (some ⟨gX0, 0, none⟩) l0.length l0.length) := by rw [Bx0_t35.cell]; rfl
  have qBg0 : w23.cell? ⟨w8.heap.size, 0, none⟩ = some (.int .i64 vz0) := by rw [Bg_t35.cell]; rfl
  have qBg1 : w23.cell? ⟨w8.heap.size, 1, none⟩ = some (.slice bG nG cG) := by rw [Bg_t35.cell]; rfl
  have qBh0 : w23.cell? ⟨w21.heap.size, 0, none⟩ = some (.int .i64 vz0) := by rw [Bh_t35.cell]; rfl
  have qBh1 : w23.cell? ⟨w21.heap.size, 1, none⟩ = some (.slice bHh nHh cHh) := by rw [Bh_t35.cell]; rfl
  go_wp2
  go_ret
  exact ⟨rfl, hw_t35⟩

set_option maxRecDepth 100000 in
theorem lifted (os : Os) (started : os.Started) (H : Type) (enc : TypeId × Value → H) :
    ReturnsInHanded {} Try.checked os 7 .any (Rows.fnExactVersDoSpec.pre6 enc Try.prog Try.f7 Rows.fnExactVersDoRow.domain false) (Rows.fnExactVersDoSpec.post enc Try.prog Try.f7 false true false false) := by
  refine returnsInHanded_of_change (C := Try.checked) Whole.own started (by kernel_rfl) Try.func7
    (ChangeSpec.witness6 (enc := enc) (C := Try.checked) false ⟨#[], #[.agg #[.int .i64 0, .slice none 0 0], .slice none 0 0], []⟩ 8 (by kernel_rfl) (by kernel_rfl) (by kernel_rfl) (by kernel_rfl)) ?_
  intro W base args ds gs before hval0 hW hcnd _
  have hval : ∀ (j : Nat) t v, Try.f7.params[j]? = some t → args[j]? = some v → Value.okWide Try.prog W .any base t v := hval0
  have hW' := hW
  obtain ⟨p, q, hA0, hV, rfl, hfz, hnd⟩ := hW
  have hA : DataW.TrodAll enc Try.prog W 0 (fun _ => true) true Try.f7.params.toList args.toList ds p := hA0
  rw [Try.params7] at hA hval
  obtain ⟨v0, vs0, d0, ds0, p0, q0, hargs, rfl, rfl, h0, r0⟩ := trodAll_cons hA
  obtain ⟨v1, vs1, d1, ds1, p1, q1, rfl, rfl, rfl, h1, r1⟩ := trodAll_cons r0
  obtain ⟨rfl, rfl, rfl⟩ := trodAll_nil r1
  obtain rfl : args = #[v0, v1] := by cases args; simp_all
  obtain ⟨rfl, rfl⟩ := trodVars_none hV
  have k0 := h0
  have lt0 : ∀ x ∈ p0, x.block < W.heap.size := by obtain ⟨m, hm⟩ := k0; exact DataW.trod_lt m _ _ _ hm
  obtain ⟨z0, A0, c0, l0, rfl, hz0, hc0, hm0, hf0, hr0⟩ := openArgVers (hval 0 24 v0 rfl rfl) h0
  have k1 := h1
  have lt1 : ∀ x ∈ p1, x.block < W.heap.size := by obtain ⟨m, hm⟩ := k1; exact DataW.trod_lt m _ _ _ hm
  obtain ⟨A1, c1, l1, rfl, hc1, hm1, hf1, hr1⟩ := openArgWrite (hval 1 41 v1 rfl rfl) h1
  clear hA0 hval0
  refine (walk z0 A0 c0 l0 A1 c1 l1 W hz0 hc0 hm0 hf0 hr0 hc1 hm1 hf1 hr1).mono fun e W' ⟨he, bel⟩ => ?_
  subst he
  exact ⟨_, rfl, _, _, _, [], _, [], hW', trodAll_mk1 (shut_bool Try.underlying4 _), (trodAll_cons_mk (Below.trod Whole.laidOut (by kernel_rfl) (of_decide_eq_true (by kernel_rfl)) k0 bel lt0) (trodAll_cons_mk (Below.trod Whole.laidOut (by kernel_rfl) (of_decide_eq_true (by kernel_rfl)) k1 bel lt1) trodAll_mk0)), rfl, bel.frame _, fun h => by cases h⟩

theorem named : Try.prog.funcNamed Rows.fnExactVersDoRow.func = some 7 := by kernel_rfl
theorem closed : Whole.lawFacts Try.prog 7 Try.f7 Rows.fnExactVersDoSpec Rows.fnExactVersDoRow = true := by kernel_rfl
theorem inst : Try.f7.isInstance Try.prog Rows.fnExactVersDoRow.origin Rows.fnExactVersDoRow.targs := of_decide_eq_true (by kernel_rfl)
theorem wrap : Try.f7.isWrapper Try.prog Rows.fnExactVersDoRow.wrapper Rows.fnExactVersDoRow.mainSum := by
  unfold Func.isWrapper; first | (rw [if_pos (by decide +kernel)]; kernel_rfl) | (rw [if_neg (by decide +kernel)]; exact ⟨rfl, rfl⟩)
theorem over : Rows.fnExactVersDoRow.holds Try.pinned (OpenSpec.ofChange Rows.fnExactVersDoSpec) :=
  OpenClaim.holds_of_wide 7 Try.f7 rfl rfl rfl rfl rfl rfl rfl ⟨rfl, rfl, rfl, rfl, rfl⟩ rfl rfl rfl rfl rfl named Try.func7 (Whole.facts_of closed)
    inst wrap (fun os started H enc _ => lifted os started H enc)

theorem proved : Rows.FnExactVersDoSaid := over
#print axioms proved
end Go.Proofs.Ytbhdgalkedegjaa.fnExactVersDo
