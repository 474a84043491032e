/- The law FnExactWorkNew: for every history the program's WorkNew answers as the model's WorkNew, every field, writes into no argument, and its answer owns its memory: for every input the call returns true, and the argument reads afterwards as before. No conditions. -/
import Derived.Test.YtbeklnhngjmpiaaRows
import Derived.Test.YtbeklnhngjmpiaaWhole
import Derived.Test.YtbeklnhngjmpiaaA6
import Derived.Test.YtbeklnhngjmpiaaArWork
import Derived.Test.YtbeklnhngjmpiaaX3n
import Derived.WalkKit
import Derived.ProofKit
import Derived.OpenShut
import Derived.ShutString
import Derived.ChangeOld
import Derived.Below
namespace Go.Proofs.Ytbeklnhngjmpiaa.fnExactWorkNew
open Go.ChangeShapes Go.WideShapes Go.ChangeAt Go.RowKit
open Go.ChangeMaps (open_string shut_string)
set_option linter.unusedVariables false

set_option maxRecDepth 100000 in
set_option maxHeartbeats 1000000 in
theorem walk (z0 : Int) (A0 : Option Addr) (c0 : Nat) (l0 : List V) (w : World) (hz0 : FitI z0) (hc0 : l0.length ≤ c0) (hm0 : c0 ≤ maxLen) (hf0 : FitVs l0) (hr0 : RdG w w.heap.size A0 l0) :
    Calls Try.prog 3 #[.agg #[.int .i64 z0, .slice A0 l0.length c0]] w fun e w' => e = .returned (.bool true) ∧ Below w.heap.size w w' := by
  have htl0 := totalV_len l0
  by_cases ht0 : (totalV l0 : Int) ≤ 1048576
  rotate_left
  · have H0 := Lib.hid (szR_neg (left := 1048576) (k := totalV l0) (by omega))
    go_enter Try.func3, Try.ntmps3
    have hb_t1 := below_alloc (Below.refl _ w) (.cells #[.int .i64 z0, .slice A0 l0.length c0] 24)
    have B0_t1 := blkA w #[.int .i64 z0, .slice A0 l0.length c0] 24
    have hz_t1 : (w.alloc (.cells #[.int .i64 z0, .slice A0 l0.length c0] 24)).heap.size = w.heap.size + 1 := World.size_alloc _ _
    have hw_t2 := hb_t1
    have hs_t2 := hb_t1.size
    have qB00 : (w.alloc (.cells #[.int .i64 z0, .slice A0 l0.length c0] 24)).cell? ⟨w.heap.size, 0, none⟩ = some (.int .i64 z0) := by rw [B0_t1.cell]; rfl
    have qB01 : (w.alloc (.cells #[.int .i64 z0, .slice A0 l0.length c0] 24)).cell? ⟨w.heap.size, 1, none⟩ = some (.slice A0 l0.length c0) := by rw [B0_t1.cell]; rfl
    go_wp2_with fail
    clear qB00 qB01
    refine (szVers_c z0 A0 c0 l0 1048576 _ hf0 hc0 hm0 (by omega) (by omega) ((hr0.below hw_t2).more hw_t2.size)).mono ?_
    rintro e w1 ⟨rfl, hb1⟩
    rw [H0.out]
    have B0_t3 := B0_t1.next hb1
    clear B0_t1
    have hw_t3 := below_next hw_t2 hb1
    have hs_t3 := hb1.size
    go_wp2
    go_ret
    exact ⟨rfl, hw_t3⟩
  obtain ⟨L0, H0, hL0, hL0x⟩ : ∃ L : Int, Hid (szR 1048576 (totalV l0) = L) ∧ 0 ≤ L ∧ L ≤ 1048576 := ⟨_, Lib.hid rfl, by rw [szR_pos ht0]; omega, by rw [szR_pos ht0]; omega⟩
  have hlen0 : l0.length ≤ 1048576 := by omega
  clear ht0 htl0
  have hvl0 : (([] : List X)).length ≤ 1048577 := by simp
  obtain ⟨vz0, HZ0⟩ : ∃ x, Hid (newA z0 l0 = x) := ⟨_, Lib.hid rfl⟩
  obtain ⟨vl0, HV0⟩ : ∃ x, Hid (([] : List X) = x) := ⟨_, Lib.hid rfl⟩
  rw [HV0.out] at hvl0
  have HE0 := Lib.hid (sameW_refl vz0 vl0)
  have HA0 := Lib.hid (sameB_refl z0 l0)
  go_enter Try.func3, Try.ntmps3
  have hb_t1 := below_alloc (Below.refl _ w) (.cells #[.int .i64 z0, .slice A0 l0.length c0] 24)
  have B0_t1 := blkA w #[.int .i64 z0, .slice A0 l0.length c0] 24
  have hz_t1 : (w.alloc (.cells #[.int .i64 z0, .slice A0 l0.length c0] 24)).heap.size = w.heap.size + 1 := World.size_alloc _ _
  have hw_t2 := hb_t1
  have hs_t2 := hb_t1.size
  have qB00 : (w.alloc (.cells #[.int .i64 z0, .slice A0 l0.length c0] 24)).cell? ⟨w.heap.size, 0, none⟩ = some (.int .i64 z0) := by rw [B0_t1.cell]; rfl
  have qB01 : (w.alloc (.cells #[.int .i64 z0, .slice A0 l0.length c0] 24)).cell? ⟨w.heap.size, 1, none⟩ = some (.slice A0 l0.length c0) := by rw [B0_t1.cell]; rfl
  go_wp2_with fail
  clear qB00 qB01
  refine (szVers_c z0 A0 c0 l0 1048576 _ hf0 hc0 hm0 (by omega) (by omega) ((hr0.below hw_t2).more hw_t2.size)).mono ?_
  rintro e w1 ⟨rfl, hb1⟩
  rw [H0.out]
  have B0_t3 := B0_t1.next hb1
  clear B0_t1
  have hw_t3 := below_next hw_t2 hb1
  have hs_t3 := hb1.size
  have qB00 : w1.cell? ⟨w.heap.size, 0, none⟩ = some (.int .i64 z0) := by rw [B0_t3.cell]; rfl
  have qB01 : w1.cell? ⟨w.heap.size, 1, none⟩ = some (.slice A0 l0.length c0) := by rw [B0_t3.cell]; rfl
  go_wp2_with fail
  clear qB00 qB01
  refine (toVers_c z0 A0 c0 l0 _ hc0 hlen0 ((hr0.below hw_t3).more hw_t3.size)).mono ?_
  rintro e w2 ⟨gY0, rfl, Y0_n, ge_Y00, lt_Y00, hb2⟩
  have B0_t4 := B0_t3.next hb2
  clear B0_t3
  have hw_t4 := below_next hw_t3 hb2
  have hs_t4 := hb2.size
  have ge_Y0 : ∀ g, (Value.slice (some ⟨gY0, 0, none⟩) l0.length l0.length).ownBlock = some g → (w1).heap.size ≤ g := fun g hg => (by have : gY0 = g := Option.some.inj hg; omega)
  have lt_Y0 : ∀ g, (Value.slice (some ⟨gY0, 0, none⟩) l0.length l0.length).ownBlock = some g → g < w2.heap.size := fun g hg => (by have : gY0 = g := Option.some.inj hg; omega)
  clear ge_Y00 lt_Y00
  have qB00 : w2.cell? ⟨w.heap.size, 0, none⟩ = some (.int .i64 z0) := by rw [B0_t4.cell]; rfl
  have qB01 : w2.cell? ⟨w.heap.size, 1, none⟩ = some (.slice A0 l0.length c0) := by rw [B0_t4.cell]; rfl
  go_wp2_with fail
  clear qB00 qB01
  refine (specWorkNewO Y0_n hf0 hlen0).mono ?_
  rw [HZ0.out, HV0.out]
  rintro e w3 ⟨VW, rfl, W_n, hb3⟩
  obtain ⟨bW, nW, cW, rfl⟩ := W_n.slice
  have Y0_t5 := Y0_n.next hb3
  clear Y0_n
  have B0_t5 := B0_t4.next hb3
  clear B0_t4
  have hw_t5 := below_next hw_t4 hb3
  have hs_t5 := hb3.size
  have ge_W : ∀ g, (Value.slice bW nW cW).ownBlock = some g → (w2).heap.size ≤ g := fun g hg => (W_n.block_lt hg).1
  have lt_W : ∀ g, (Value.slice bW nW cW).ownBlock = some g → g < w3.heap.size := fun g hg => (W_n.block_lt hg).2
  have hb_t6 := below_alloc (Below.refl _ w3) (.cells #[.int .i64 vz0, .slice bW nW cW] 28)
  have Bw_t6 := blkA w3 #[.int .i64 vz0, .slice bW nW cW] 28
  have hz_t6 : (w3.alloc (.cells #[.int .i64 vz0, .slice bW nW cW] 28)).heap.size = w3.heap.size + 1 := World.size_alloc _ _
  have Y0_t7 := Y0_t5.next hb_t6
  clear Y0_t5
  have W_t7 := W_n.next hb_t6
  clear W_n
  have B0_t7 := B0_t5.next hb_t6
  clear B0_t5
  have hw_t7 := below_next hw_t5 hb_t6
  have hs_t7 := hb_t6.size
  clear Y0_t7
  have qB00 : (w3.alloc (.cells #[.int .i64 vz0, .slice bW nW cW] 28)).cell? ⟨w.heap.size, 0, none⟩ = some (.int .i64 z0) := by rw [B0_t7.cell]; rfl
  have qB01 : (w3.alloc (.cells #[.int .i64 vz0, .slice bW nW cW] 28)).cell? ⟨w.heap.size, 1, none⟩ = some (.slice A0 l0.length c0) := by rw [B0_t7.cell]; rfl
  have qBw0 : (w3.alloc (.cells #[.int .i64 vz0, .slice bW nW cW] 28)).cell? ⟨w3.heap.size, 0, none⟩ = some (.int .i64 vz0) := by rw [Bw_t6.cell]; rfl
  have qBw1 : (w3.alloc (.cells #[.int .i64 vz0, .slice bW nW cW] 28)).cell? ⟨w3.heap.size, 1, none⟩ = some (.slice bW nW cW) := by rw [Bw_t6.cell]; rfl
  go_wp2_with fail
  clear qB00 qB01 qBw0 qBw1
  refine (toVers_c z0 A0 c0 l0 _ hc0 hlen0 ((hr0.below hw_t7).more hw_t7.size)).mono ?_
  rintro e w4 ⟨gX0, rfl, X0_n, ge_X00, lt_X00, hb4⟩
  have W_t8 := W_t7.next hb4
  clear W_t7
  have B0_t8 := B0_t7.next hb4
  clear B0_t7
  have Bw_t8 := Bw_t6.next hb4
  clear Bw_t6
  have hw_t8 := below_next hw_t7 hb4
  have hs_t8 := hb4.size
  have ge_X0 : ∀ g, (Value.slice (some ⟨gX0, 0, none⟩) l0.length l0.length).ownBlock = some g → ((w3.alloc (.cells #[.int .i64 vz0, .slice bW nW cW] 28))).heap.size ≤ g := fun g hg => (by have : gX0 = g := Option.some.inj hg; omega)
  have lt_X0 : ∀ g, (Value.slice (some ⟨gX0, 0, none⟩) l0.length l0.length).ownBlock = some g → g < w4.heap.size := fun g hg => (by have : gX0 = g := Option.some.inj hg; omega)
  clear ge_X00 lt_X00
  have hb_t9 := below_alloc (Below.refl _ w4) (.cells #[.int .i64 z0, .slice (some ⟨gX0, 0, none⟩) l0.length l0.length] 32)
  have Bx0_t9 := blkA w4 #[.int .i64 z0, .slice (some ⟨gX0, 0, none⟩) l0.length l0.length] 32
  have hz_t9 : (w4.alloc (.cells #[.int .i64 z0, .slice (some ⟨gX0, 0, none⟩) l0.length l0.length] 32)).heap.size = w4.heap.size + 1 := World.size_alloc _ _
  have W_t10 := W_t8.next hb_t9
  clear W_t8
  have X0_t10 := X0_n.next hb_t9
  clear X0_n
  have B0_t10 := B0_t8.next hb_t9
  clear B0_t8
  have Bw_t10 := Bw_t8.next hb_t9
  clear Bw_t8
  have hw_t10 := below_next hw_t8 hb_t9
  have hs_t10 := hb_t9.size
  have qB00 : (w4.alloc (.cells #[.int .i64 z0, .slice (some ⟨gX0, 0, none⟩) l0.length l0.length] 32)).cell? ⟨w.heap.size, 0, none⟩ = some (.int .i64 z0) := by rw [B0_t10.cell]; rfl
  have qB01 : (w4.alloc (.cells #[.int .i64 z0, .slice (some ⟨gX0, 0, none⟩) l0.length l0.length] 32)).cell? ⟨w.heap.size, 1, none⟩ = some (.slice A0 l0.length c0) := by rw [B0_t10.cell]; rfl
  have qBw0 : (w4.alloc (.cells #[.int .i64 z0, .slice (some ⟨gX0, 0, none⟩) l0.length l0.length] 32)).cell? ⟨w3.heap.size, 0, none⟩ = some (.int .i64 vz0) := by rw [Bw_t10.cell]; rfl
  have qBw1 : (w4.alloc (.cells #[.int .i64 z0, .slice (some ⟨gX0, 0, none⟩) l0.length l0.length] 32)).cell? ⟨w3.heap.size, 1, none⟩ = some (.slice bW nW cW) := by rw [Bw_t10.cell]; rfl
  have qBx00 : (w4.alloc (.cells #[.int .i64 z0, .slice (some ⟨gX0, 0, none⟩) l0.length l0.length] 32)).cell? ⟨w4.heap.size, 0, none⟩ = some (.int .i64 z0) := by rw [Bx0_t9.cell]; rfl
  have qBx01 : (w4.alloc (.cells #[.int .i64 z0, .slice (some ⟨gX0, 0, none⟩) l0.length l0.length] 32)).cell? ⟨w4.heap.size, 1, none⟩ = some (.slice (some ⟨gX0, 0, none⟩) l0.length l0.length) := by rw [Bx0_t9.cell]; rfl
  go_wp2_with fail
  clear qB00 qB01 qBw0 qBw1 qBx00 qBx01
  refine (implWorkNewO X0_t10 hf0 hlen0).mono ?_
  rw [HZ0.out, HV0.out]
  rintro e w5 ⟨VG, rfl, G_n, hb5⟩
  obtain ⟨bG, nG, cG, rfl⟩ := G_n.slice
  have W_t11 := W_t10.next hb5
  clear W_t10
  have X0_t11 := X0_t10.next hb5
  clear X0_t10
  have B0_t11 := B0_t10.next hb5
  clear B0_t10
  have Bw_t11 := Bw_t10.next hb5
  clear Bw_t10
  have Bx0_t11 := Bx0_t9.next hb5
  clear Bx0_t9
  have hw_t11 := below_next hw_t10 hb5
  have hs_t11 := hb5.size
  have ge_G : ∀ g, (Value.slice bG nG cG).ownBlock = some g → ((w4.alloc (.cells #[.int .i64 z0, .slice (some ⟨gX0, 0, none⟩) l0.length l0.length] 32))).heap.size ≤ g := fun g hg => (G_n.block_lt hg).1
  have lt_G : ∀ g, (Value.slice bG nG cG).ownBlock = some g → g < w5.heap.size := fun g hg => (G_n.block_lt hg).2
  have hb_t12 := below_alloc (Below.refl _ w5) (.cells #[.int .i64 vz0, .slice bG nG cG] 28)
  have Bg_t12 := blkA w5 #[.int .i64 vz0, .slice bG nG cG] 28
  have hz_t12 : (w5.alloc (.cells #[.int .i64 vz0, .slice bG nG cG] 28)).heap.size = w5.heap.size + 1 := World.size_alloc _ _
  have W_t13 := W_t11.next hb_t12
  clear W_t11
  have X0_t13 := X0_t11.next hb_t12
  clear X0_t11
  have G_t13 := G_n.next hb_t12
  clear G_n
  have B0_t13 := B0_t11.next hb_t12
  clear B0_t11
  have Bw_t13 := Bw_t11.next hb_t12
  clear Bw_t11
  have Bx0_t13 := Bx0_t11.next hb_t12
  clear Bx0_t11
  have hw_t13 := below_next hw_t11 hb_t12
  have hs_t13 := hb_t12.size
  have qB00 : (w5.alloc (.cells #[.int .i64 vz0, .slice bG nG cG] 28)).cell? ⟨w.heap.size, 0, none⟩ = some (.int .i64 z0) := by rw [B0_t13.cell]; rfl
  have qB01 : (w5.alloc (.cells #[.int .i64 vz0, .slice bG nG cG] 28)).cell? ⟨w.heap.size, 1, none⟩ = some (.slice A0 l0.length c0) := by rw [B0_t13.cell]; rfl
  have qBw0 : (w5.alloc (.cells #[.int .i64 vz0, .slice bG nG cG] 28)).cell? ⟨w3.heap.size, 0, none⟩ = some (.int .i64 vz0) := by rw [Bw_t13.cell]; rfl
  have qBw1 : (w5.alloc (.cells #[.int .i64 vz0, .slice bG nG cG] 28)).cell? ⟨w3.heap.size, 1, none⟩ = some (.slice bW nW cW) := by rw [Bw_t13.cell]; rfl
  have qBx00 : (w5.alloc (.cells #[.int .i64 vz0, .slice bG nG cG] 28)).cell? ⟨w4.heap.size, 0, none⟩ = some (.int .i64 z0) := by rw [Bx0_t13.cell]; rfl
  have qBx01 : (w5.alloc (.cells #[.int .i64 vz0, .slice bG nG cG] 28)).cell? ⟨w4.heap.size, 1, none⟩ = some (.slice (some ⟨gX0, 0, none⟩) l0.length l0.length) := by rw [Bx0_t13.cell]; rfl
  have qBg0 : (w5.alloc (.cells #[.int .i64 vz0, .slice bG nG cG] 28)).cell? ⟨w5.heap.size, 0, none⟩ = some (.int .i64 vz0) := by rw [Bg_t12.cell]; rfl
  have qBg1 : (w5.alloc (.cells #[.int .i64 vz0, .slice bG nG cG] 28)).cell? ⟨w5.heap.size, 1, none⟩ = some (.slice bG nG cG) := by rw [Bg_t12.cell]; rfl
  go_wp2_with fail
  clear qB00 qB01 qBw0 qBw1 qBx00 qBx01 qBg0 qBg1
  refine (eqWork_c vz0 vz0 _ _ vl0 vl0 _ _ _ G_t13 W_t13 (by omega) (by omega)).mono ?_
  rintro e w6 ⟨rfl, hb6⟩
  rw [HE0.out]
  have W_t14 := W_t13.next hb6
  clear W_t13
  have X0_t14 := X0_t13.next hb6
  clear X0_t13
  have G_t14 := G_t13.next hb6
  clear G_t13
  have B0_t14 := B0_t13.next hb6
  clear B0_t13
  have Bw_t14 := Bw_t13.next hb6
  clear Bw_t13
  have Bx0_t14 := Bx0_t13.next hb6
  clear Bx0_t13
  have Bg_t14 := Bg_t12.next hb6
  clear Bg_t12
  have hw_t14 := below_next hw_t13 hb6
  have hs_t14 := hb6.size
  have qB00 : w6.cell? ⟨w.heap.size, 0, none⟩ = some (.int .i64 z0) := by rw [B0_t14.cell]; rfl
  have qB01 : w6.cell? ⟨w.heap.size, 1, none⟩ = some (.slice A0 l0.length c0) := by rw [B0_t14.cell]; rfl
  have qBw0 : w6.cell? ⟨w3.heap.size, 0, none⟩ = some (.int .i64 vz0) := by rw [Bw_t14.cell]; rfl
  have qBw1 : w6.cell? ⟨w3.heap.size, 1, none⟩ = some (.slice bW nW cW) := by rw [Bw_t14.cell]; rfl
  have qBx00 : w6.cell? ⟨w4.heap.size, 0, none⟩ = some (.int .i64 z0) := by rw [Bx0_t14.cell]; rfl
  have qBx01 : w6.cell? ⟨w4.heap.size, 1, none⟩ = some (.slice (some ⟨gX0, 0, none⟩) l0.length l0.length) := by rw [Bx0_t14.cell]; rfl
  have qBg0 : w6.cell? ⟨w5.heap.size, 0, none⟩ = some (.int .i64 vz0) := by rw [Bg_t14.cell]; rfl
  have qBg1 : w6.cell? ⟨w5.heap.size, 1, none⟩ = some (.slice bG nG cG) := by rw [Bg_t14.cell]; rfl
  go_wp2
  clear qB00 qB01 qBw0 qBw1 qBx00 qBx01 qBg0 qBg1
  have hb_t15 : Below w6.heap.size w6 w6.drew := (Below.refl _ _).drew
  have W_t16 := W_t14.next hb_t15
  clear W_t14
  have X0_t16 := X0_t14.next hb_t15
  clear X0_t14
  have G_t16 := G_t14.next hb_t15
  clear G_t14
  have B0_t16 := B0_t14.next hb_t15
  clear B0_t14
  have Bw_t16 := Bw_t14.next hb_t15
  clear Bw_t14
  have Bx0_t16 := Bx0_t14.next hb_t15
  clear Bx0_t14
  have Bg_t16 := Bg_t14.next hb_t15
  clear Bg_t14
  have hw_t16 := below_next hw_t14 hb_t15
  have hs_t16 := hb_t15.size
  refine wp_region_held_drew (S := (fun W => W.cell? ⟨w.heap.size, 0, none⟩ = some (.int .i64 z0) ∧ W.cell? ⟨w.heap.size, 1, none⟩ = some (.slice A0 l0.length c0) ∧ W.cell? ⟨w3.heap.size, 0, none⟩ = some (.int .i64 vz0) ∧ W.cell? ⟨w3.heap.size, 1, none⟩ = some (.slice bW nW cW) ∧ W.cell? ⟨w4.heap.size, 0, none⟩ = some (.int .i64 z0) ∧ W.cell? ⟨w4.heap.size, 1, none⟩ = some (.slice (some ⟨gX0, 0, none⟩) l0.length l0.length) ∧ W.cell? ⟨w5.heap.size, 0, none⟩ = some (.int .i64 vz0) ∧ W.cell? ⟨w5.heap.size, 1, none⟩ = some (.slice bG nG cG))) (by kernel_rfl) ?_ (fun hHeld => ?_)
  focus ((try dsimp only); (exact ⟨by rw [B0_t16.cell]; rfl, by rw [B0_t16.cell]; rfl, by rw [Bw_t16.cell]; rfl, by rw [Bw_t16.cell]; rfl, by rw [Bx0_t16.cell]; rfl, by rw [Bx0_t16.cell]; rfl, by rw [Bg_t16.cell]; rfl, by rw [Bg_t16.cell]; rfl⟩))
  (refine tk 0 ?_; try simp only [Act.put, pa, pb, pc])
  (refine tk 1 ?_; try simp only [Act.put, pa, pb, pc])
  (refine rd1 2 (fun K hK => ?_); go_simp; (go_at_call 9; refine (toVers_c z0 A0 c0 l0 _ hc0 hlen0 ((hr0.below hw_t16).more hw_t16.size)).mono ?_; rintro e w7 ⟨gZ0, rfl, Z0_n, ge_Z00, lt_Z00, hb7⟩; have W_t17 := W_t16.next hb7; clear W_t16; have X0_t17 := X0_t16.next hb7; clear X0_t16; have G_t17 := G_t16.next hb7; clear G_t16; have B0_t17 := B0_t16.next hb7; clear B0_t16; have Bw_t17 := Bw_t16.next hb7; clear Bw_t16; have Bx0_t17 := Bx0_t16.next hb7; clear Bx0_t16; have Bg_t17 := Bg_t16.next hb7; clear Bg_t16; have hw_t17 := below_next hw_t16 hb7; have hs_t17 := hb7.size; have ge_Z0 : ∀ g, (Value.slice (some ⟨gZ0, 0, none⟩) l0.length l0.length).ownBlock = some g → (w6.drew).heap.size ≤ g := fun g hg => (by have : gZ0 = g := Option.some.inj hg; omega); have lt_Z0 : ∀ g, (Value.slice (some ⟨gZ0, 0, none⟩) l0.length l0.length).ownBlock = some g → g < w7.heap.size := fun g hg => (by have : gZ0 = g := Option.some.inj hg; omega); clear ge_Z00 lt_Z00); go_wp2_with fail; refine hK.out _ _ ?_ (fun hHeld => ?_); (focus ((try dsimp only); (exact ⟨by rw [B0_t17.cell]; rfl, by rw [B0_t17.cell]; rfl, by rw [Bw_t17.cell]; rfl, by rw [Bw_t17.cell]; rfl, by rw [Bx0_t17.cell]; rfl, by rw [Bx0_t17.cell]; rfl, by rw [Bg_t17.cell]; rfl, by rw [Bg_t17.cell]; rfl⟩))); clear hK K; (try simp only [Act.put, pa, pb, pc]))
  (refine rd1 3 (fun K hK => ?_); go_simp; (go_at_call 12; refine (eqVers_c z0 z0 _ _ l0 l0 _ _ _ X0_t17 Z0_n (by omega) (by omega)).mono ?_; rintro e w8 ⟨rfl, hb8⟩; rw [HA0.out]; have W_t18 := W_t17.next hb8; clear W_t17; have X0_t18 := X0_t17.next hb8; clear X0_t17; have G_t18 := G_t17.next hb8; clear G_t17; have Z0_t18 := Z0_n.next hb8; clear Z0_n; have B0_t18 := B0_t17.next hb8; clear B0_t17; have Bw_t18 := Bw_t17.next hb8; clear Bw_t17; have Bx0_t18 := Bx0_t17.next hb8; clear Bx0_t17; have Bg_t18 := Bg_t17.next hb8; clear Bg_t17; have hw_t18 := below_next hw_t17 hb8; have hs_t18 := hb8.size); go_wp2_with fail; refine hK.out _ _ ?_ (fun hHeld => ?_); (focus ((try dsimp only); (exact ⟨by rw [B0_t18.cell]; rfl, by rw [B0_t18.cell]; rfl, by rw [Bw_t18.cell]; rfl, by rw [Bw_t18.cell]; rfl, by rw [Bx0_t18.cell]; rfl, by rw [Bx0_t18.cell]; rfl, by rw [Bg_t18.cell]; rfl, by rw [Bg_t18.cell]; rfl⟩))); clear hK K; (try simp only [Act.put, pa, pb, pc]))
  (refine tk 4 ?_; try simp only [Act.put, pa, pb, pc])
  refine wpAnyH_done (by kernel_rfl) ?_ _
  clear Z0_t18
  have qB00 : w8.cell? ⟨w.heap.size, 0, none⟩ = some (.int .i64 z0) := by rw [B0_t18.cell]; rfl
  have qB01 : w8.cell? ⟨w.heap.size, 1, none⟩ = some (.slice A0 l0.length c0) := by rw [B0_t18.cell]; rfl
  have qBw0 : w8.cell? ⟨w3.heap.size, 0, none⟩ = some (.int .i64 vz0) := by rw [Bw_t18.cell]; rfl
  have qBw1 : w8.cell? ⟨w3.heap.size, 1, none⟩ = some (.slice bW nW cW) := by rw [Bw_t18.cell]; rfl
  have qBx00 : w8.cell? ⟨w4.heap.size, 0, none⟩ = some (.int .i64 z0) := by rw [Bx0_t18.cell]; rfl
  have qBx01 : w8.cell? ⟨w4.heap.size, 1, none⟩ = some (.slice (some ⟨gX0, 0, none⟩) l0.length l0.length) := by rw [Bx0_t18.cell]; rfl
  have qBg0 : w8.cell? ⟨w5.heap.size, 0, none⟩ = some (.int .i64 vz0) := by rw [Bg_t18.cell]; rfl
  have qBg1 : w8.cell? ⟨w5.heap.size, 1, none⟩ = some (.slice bG nG cG) := by rw [Bg_t18.cell]; rfl
  go_wp2_with fail
  clear qB00 qB01 qBw0 qBw1 qBx00 qBx01 qBg0 qBg1
  refine (markVers_c z0 _ l0 _ (1) _ X0_t18 (by omega) (by omega)).mono ?_
  rintro e w9 ⟨rfl, hM9, hg9⟩
  have hw_t19 : Below w.heap.size w w9 := belowGrow hw_t18 hg9 (fun k hk => by have := ge_X0 k hk; omega)
  have hs_t19 := hg9.size
  have W_t19 := W_t18.kept hg9 (fun g hg h => by have h1 := ge_X0 g h.symm; have h2 := lt_X0 g h.symm; have h3 := ge_W g hg; have h4 := lt_W g hg; omega)
  clear W_t18
  have G_t19 := G_t18.kept hg9 (fun g hg h => by have h1 := ge_X0 g h.symm; have h2 := lt_X0 g h.symm; have h3 := ge_G g hg; have h4 := lt_G g hg; omega)
  clear G_t18
  have B0_t19 := B0_t18.grown hg9 (fun h => by have h1 := ge_X0 _ h.symm; have h2 := lt_X0 _ h.symm; omega)
  clear B0_t18
  have Bw_t19 := Bw_t18.grown hg9 (fun h => by have h1 := ge_X0 _ h.symm; have h2 := lt_X0 _ h.symm; omega)
  clear Bw_t18
  have Bx0_t19 := Bx0_t18.grown hg9 (fun h => by have h1 := ge_X0 _ h.symm; have h2 := lt_X0 _ h.symm; omega)
  clear Bx0_t18
  have Bg_t19 := Bg_t18.grown hg9 (fun h => by have h1 := ge_X0 _ h.symm; have h2 := lt_X0 _ h.symm; omega)
  clear Bg_t18
  clear X0_t18 hg9
  clear hM9
  have qB00 : w9.cell? ⟨w.heap.size, 0, none⟩ = some (.int .i64 z0) := by rw [B0_t19.cell]; rfl
  have qB01 : w9.cell? ⟨w.heap.size, 1, none⟩ = some (.slice A0 l0.length c0) := by rw [B0_t19.cell]; rfl
  have qBw0 : w9.cell? ⟨w3.heap.size, 0, none⟩ = some (.int .i64 vz0) := by rw [Bw_t19.cell]; rfl
  have qBw1 : w9.cell? ⟨w3.heap.size, 1, none⟩ = some (.slice bW nW cW) := by rw [Bw_t19.cell]; rfl
  have qBx00 : w9.cell? ⟨w4.heap.size, 0, none⟩ = some (.int .i64 z0) := by rw [Bx0_t19.cell]; rfl
  have qBx01 : w9.cell? ⟨w4.heap.size, 1, none⟩ = some (.slice (some ⟨gX0, 0, none⟩) l0.length l0.length) := by rw [Bx0_t19.cell]; rfl
  have qBg0 : w9.cell? ⟨w5.heap.size, 0, none⟩ = some (.int .i64 vz0) := by rw [Bg_t19.cell]; rfl
  have qBg1 : w9.cell? ⟨w5.heap.size, 1, none⟩ = some (.slice bG nG cG) := by rw [Bg_t19.cell]; rfl
  go_wp2_with fail
  clear qB00 qB01 qBw0 qBw1 qBx00 qBx01 qBg0 qBg1
  refine (eqWork_c vz0 vz0 _ _ vl0 vl0 _ _ _ G_t19 W_t19 (by omega) (by omega)).mono ?_
  rintro e w10 ⟨rfl, hb10⟩
  rw [HE0.out]
  have W_t20 := W_t19.next hb10
  clear W_t19
  have G_t20 := G_t19.next hb10
  clear G_t19
  have B0_t20 := B0_t19.next hb10
  clear B0_t19
  have Bw_t20 := Bw_t19.next hb10
  clear Bw_t19
  have Bx0_t20 := Bx0_t19.next hb10
  clear Bx0_t19
  have Bg_t20 := Bg_t19.next hb10
  clear Bg_t19
  have hw_t20 := below_next hw_t19 hb10
  have hs_t20 := hb10.size
  have qB00 : w10.cell? ⟨w.heap.size, 0, none⟩ = some (.int .i64 z0) := by rw [B0_t20.cell]; rfl
  have qB01 : w10.cell? ⟨w.heap.size, 1, none⟩ = some (.slice A0 l0.length c0) := by rw [B0_t20.cell]; rfl
  have qBw0 : w10.cell? ⟨w3.heap.size, 0, none⟩ = some (.int .i64 vz0) := by rw [Bw_t20.cell]; rfl
  have qBw1 : w10.cell? ⟨w3.heap.size, 1, none⟩ = some (.slice bW nW cW) := by rw [Bw_t20.cell]; rfl
  have qBx00 : w10.cell? ⟨w4.heap.size, 0, none⟩ = some (.int .i64 z0) := by rw [Bx0_t20.cell]; rfl
  have qBx01 : w10.cell? ⟨w4.heap.size, 1, none⟩ = some (.slice (some ⟨gX0, 0, none⟩) l0.length l0.length) := by rw [Bx0_t20.cell]; rfl
  have qBg0 : w10.cell? ⟨w5.heap.size, 0, none⟩ = some (.int .i64 vz0) := by rw [Bg_t20.cell]; rfl
  have qBg1 : w10.cell? ⟨w5.heap.size, 1, none⟩ = some (.slice bG nG cG) := by rw [Bg_t20.cell]; rfl
  go_wp2_with fail
  clear qB00 qB01 qBw0 qBw1 qBx00 qBx01 qBg0 qBg1
  refine (markWork_c vz0 _ vl0 _ 1 _ G_t20 (by omega) (by omega)).mono ?_
  rintro e w11 ⟨rfl, hM11, hg11⟩
  have hw_t21 : Below w.heap.size w w11 := belowGrow hw_t20 hg11 (fun k hk => by have := ge_G k hk; omega)
  have hs_t21 := hg11.size
  have W_t21 := W_t20.kept hg11 (fun g hg h => by have h1 := ge_G g h.symm; have h2 := lt_G g h.symm; have h3 := ge_W g hg; have h4 := lt_W g hg; omega)
  clear W_t20
  have B0_t21 := B0_t20.grown hg11 (fun h => by have h1 := ge_G _ h.symm; have h2 := lt_G _ h.symm; omega)
  clear B0_t20
  have Bw_t21 := Bw_t20.grown hg11 (fun h => by have h1 := ge_G _ h.symm; have h2 := lt_G _ h.symm; omega)
  clear Bw_t20
  have Bx0_t21 := Bx0_t20.grown hg11 (fun h => by have h1 := ge_G _ h.symm; have h2 := lt_G _ h.symm; omega)
  clear Bx0_t20
  have Bg_t21 := Bg_t20.grown hg11 (fun h => by have h1 := ge_G _ h.symm; have h2 := lt_G _ h.symm; omega)
  clear Bg_t20
  clear G_t20 hg11
  have qB00 : w11.cell? ⟨w.heap.size, 0, none⟩ = some (.int .i64 z0) := by rw [B0_t21.cell]; rfl
  have qB01 : w11.cell? ⟨w.heap.size, 1, none⟩ = some (.slice A0 l0.length c0) := by rw [B0_t21.cell]; rfl
  have qBw0 : w11.cell? ⟨w3.heap.size, 0, none⟩ = some (.int .i64 vz0) := by rw [Bw_t21.cell]; rfl
  have qBw1 : w11.cell? ⟨w3.heap.size, 1, none⟩ = some (.slice bW nW cW) := by rw [Bw_t21.cell]; rfl
  have qBx00 : w11.cell? ⟨w4.heap.size, 0, none⟩ = some (.int .i64 z0) := by rw [Bx0_t21.cell]; rfl
  have qBx01 : w11.cell? ⟨w4.heap.size, 1, none⟩ = some (.slice (some ⟨gX0, 0, none⟩) l0.length l0.length) := by rw [Bx0_t21.cell]; rfl
  have qBg0 : w11.cell? ⟨w5.heap.size, 0, none⟩ = some (.int .i64 vz0) := by rw [Bg_t21.cell]; rfl
  have qBg1 : w11.cell? ⟨w5.heap.size, 1, none⟩ = some (.slice bG nG cG) := by rw [Bg_t21.cell]; rfl
  go_wp2_with fail
  clear qB00 qB01 qBw0 qBw1 qBx00 qBx01 qBg0 qBg1
  refine (heldWork_c vz0 _ vl0.length _ 1 _ hM11 (by omega) (by omega)).mono ?_
  rintro e w12 ⟨rfl, hb12⟩
  have W_t22 := W_t21.next hb12
  clear W_t21
  have G_t22 := hM11.next hb12
  clear hM11
  have B0_t22 := B0_t21.next hb12
  clear B0_t21
  have Bw_t22 := Bw_t21.next hb12
  clear Bw_t21
  have Bx0_t22 := Bx0_t21.next hb12
  clear Bx0_t21
  have Bg_t22 := Bg_t21.next hb12
  clear Bg_t21
  have hw_t22 := below_next hw_t21 hb12
  have hs_t22 := hb12.size
  have qB00 : w12.cell? ⟨w.heap.size, 0, none⟩ = some (.int .i64 z0) := by rw [B0_t22.cell]; rfl
  have qB01 : w12.cell? ⟨w.heap.size, 1, none⟩ = some (.slice A0 l0.length c0) := by rw [B0_t22.cell]; rfl
  have qBw0 : w12.cell? ⟨w3.heap.size, 0, none⟩ = some (.int .i64 vz0) := by rw [Bw_t22.cell]; rfl
  have qBw1 : w12.cell? ⟨w3.heap.size, 1, none⟩ = some (.slice bW nW cW) := by rw [Bw_t22.cell]; rfl
  have qBx00 : w12.cell? ⟨w4.heap.size, 0, none⟩ = some (.int .i64 z0) := by rw [Bx0_t22.cell]; rfl
  have qBx01 : w12.cell? ⟨w4.heap.size, 1, none⟩ = some (.slice (some ⟨gX0, 0, none⟩) l0.length l0.length) := by rw [Bx0_t22.cell]; rfl
  have qBg0 : w12.cell? ⟨w5.heap.size, 0, none⟩ = some (.int .i64 vz0) := by rw [Bg_t22.cell]; rfl
  have qBg1 : w12.cell? ⟨w5.heap.size, 1, none⟩ = some (.slice bG nG cG) := by rw [Bg_t22.cell]; rfl
  go_wp2_with fail
  clear qB00 qB01 qBw0 qBw1 qBx00 qBx01 qBg0 qBg1
  refine (toVers_c z0 A0 c0 l0 _ hc0 hlen0 ((hr0.below hw_t22).more hw_t22.size)).mono ?_
  rintro e w13 ⟨gU0, rfl, U0_n, ge_U00, lt_U00, hb13⟩
  have W_t23 := W_t22.next hb13
  clear W_t22
  have G_t23 := G_t22.next hb13
  clear G_t22
  have B0_t23 := B0_t22.next hb13
  clear B0_t22
  have Bw_t23 := Bw_t22.next hb13
  clear Bw_t22
  have Bx0_t23 := Bx0_t22.next hb13
  clear Bx0_t22
  have Bg_t23 := Bg_t22.next hb13
  clear Bg_t22
  have hw_t23 := below_next hw_t22 hb13
  have hs_t23 := hb13.size
  have ge_U0 : ∀ g, (Value.slice (some ⟨gU0, 0, none⟩) l0.length l0.length).ownBlock = some g → (w12).heap.size ≤ g := fun g hg => (by have : gU0 = g := Option.some.inj hg; omega)
  have lt_U0 : ∀ g, (Value.slice (some ⟨gU0, 0, none⟩) l0.length l0.length).ownBlock = some g → g < w13.heap.size := fun g hg => (by have : gU0 = g := Option.some.inj hg; omega)
  clear ge_U00 lt_U00
  have qB00 : w13.cell? ⟨w.heap.size, 0, none⟩ = some (.int .i64 z0) := by rw [B0_t23.cell]; rfl
  have qB01 : w13.cell? ⟨w.heap.size, 1, none⟩ = some (.slice A0 l0.length c0) := by rw [B0_t23.cell]; rfl
  have qBw0 : w13.cell? ⟨w3.heap.size, 0, none⟩ = some (.int .i64 vz0) := by rw [Bw_t23.cell]; rfl
  have qBw1 : w13.cell? ⟨w3.heap.size, 1, none⟩ = some (.slice bW nW cW) := by rw [Bw_t23.cell]; rfl
  have qBx00 : w13.cell? ⟨w4.heap.size, 0, none⟩ = some (.int .i64 z0) := by rw [Bx0_t23.cell]; rfl
  have qBx01 : w13.cell? ⟨w4.heap.size, 1, none⟩ = some (.slice (some ⟨gX0, 0, none⟩) l0.length l0.length) := by rw [Bx0_t23.cell]; rfl
  have qBg0 : w13.cell? ⟨w5.heap.size, 0, none⟩ = some (.int .i64 vz0) := by rw [Bg_t23.cell]; rfl
  have qBg1 : w13.cell? ⟨w5.heap.size, 1, none⟩ = some (.slice bG nG cG) := by rw [Bg_t23.cell]; rfl
  go_wp2_with fail
  clear qB00 qB01 qBw0 qBw1 qBx00 qBx01 qBg0 qBg1
  refine (implWorkNewO U0_n hf0 hlen0).mono ?_
  rw [HZ0.out, HV0.out]
  rintro e w14 ⟨VHh, rfl, Hh_n, hb14⟩
  obtain ⟨bHh, nHh, cHh, rfl⟩ := Hh_n.slice
  have W_t24 := W_t23.next hb14
  clear W_t23
  have G_t24 := G_t23.next hb14
  clear G_t23
  have U0_t24 := U0_n.next hb14
  clear U0_n
  have B0_t24 := B0_t23.next hb14
  clear B0_t23
  have Bw_t24 := Bw_t23.next hb14
  clear Bw_t23
  have Bx0_t24 := Bx0_t23.next hb14
  clear Bx0_t23
  have Bg_t24 := Bg_t23.next hb14
  clear Bg_t23
  have hw_t24 := below_next hw_t23 hb14
  have hs_t24 := hb14.size
  have ge_Hh : ∀ g, (Value.slice bHh nHh cHh).ownBlock = some g → (w13).heap.size ≤ g := fun g hg => (Hh_n.block_lt hg).1
  have lt_Hh : ∀ g, (Value.slice bHh nHh cHh).ownBlock = some g → g < w14.heap.size := fun g hg => (Hh_n.block_lt hg).2
  have hb_t25 := below_alloc (Below.refl _ w14) (.cells #[.int .i64 vz0, .slice bHh nHh cHh] 28)
  have Bh_t25 := blkA w14 #[.int .i64 vz0, .slice bHh nHh cHh] 28
  have hz_t25 : (w14.alloc (.cells #[.int .i64 vz0, .slice bHh nHh cHh] 28)).heap.size = w14.heap.size + 1 := World.size_alloc _ _
  have W_t26 := W_t24.next hb_t25
  clear W_t24
  have G_t26 := G_t24.next hb_t25
  clear G_t24
  have U0_t26 := U0_t24.next hb_t25
  clear U0_t24
  have Hh_t26 := Hh_n.next hb_t25
  clear Hh_n
  have B0_t26 := B0_t24.next hb_t25
  clear B0_t24
  have Bw_t26 := Bw_t24.next hb_t25
  clear Bw_t24
  have Bx0_t26 := Bx0_t24.next hb_t25
  clear Bx0_t24
  have Bg_t26 := Bg_t24.next hb_t25
  clear Bg_t24
  have hw_t26 := below_next hw_t24 hb_t25
  have hs_t26 := hb_t25.size
  clear U0_t26
  have qB00 : (w14.alloc (.cells #[.int .i64 vz0, .slice bHh nHh cHh] 28)).cell? ⟨w.heap.size, 0, none⟩ = some (.int .i64 z0) := by rw [B0_t26.cell]; rfl
  have qB01 : (w14.alloc (.cells #[.int .i64 vz0, .slice bHh nHh cHh] 28)).cell? ⟨w.heap.size, 1, none⟩ = some (.slice A0 l0.length c0) := by rw [B0_t26.cell]; rfl
  have qBw0 : (w14.alloc (.cells #[.int .i64 vz0, .slice bHh nHh cHh] 28)).cell? ⟨w3.heap.size, 0, none⟩ = some (.int .i64 vz0) := by rw [Bw_t26.cell]; rfl
  have qBw1 : (w14.alloc (.cells #[.int .i64 vz0, .slice bHh nHh cHh] 28)).cell? ⟨w3.heap.size, 1, none⟩ = some (.slice bW nW cW) := by rw [Bw_t26.cell]; rfl
  have qBx00 : (w14.alloc (.cells #[.int .i64 vz0, .slice bHh nHh cHh] 28)).cell? ⟨w4.heap.size, 0, none⟩ = some (.int .i64 z0) := by rw [Bx0_t26.cell]; rfl
  have qBx01 : (w14.alloc (.cells #[.int .i64 vz0, .slice bHh nHh cHh] 28)).cell? ⟨w4.heap.size, 1, none⟩ = some (.slice (some ⟨gX0, 0, none⟩) l0.length l0.length) := by rw [Bx0_t26.cell]; rfl
  have qBg0 : (w14.alloc (.cells #[.int .i64 vz0, .slice bHh nHh cHh] 28)).cell? ⟨w5.heap.size, 0, none⟩ = some (.int .i64 vz0) := by rw [Bg_t26.cell]; rfl
  have qBg1 : (w14.alloc (.cells #[.int .i64 vz0, .slice bHh nHh cHh] 28)).cell? ⟨w5.heap.size, 1, none⟩ = some (.slice bG nG cG) := by rw [Bg_t26.cell]; rfl
  have qBh0 : (w14.alloc (.cells #[.int .i64 vz0, .slice bHh nHh cHh] 28)).cell? ⟨w14.heap.size, 0, none⟩ = some (.int .i64 vz0) := by rw [Bh_t25.cell]; rfl
  have qBh1 : (w14.alloc (.cells #[.int .i64 vz0, .slice bHh nHh cHh] 28)).cell? ⟨w14.heap.size, 1, none⟩ = some (.slice bHh nHh cHh) := by rw [Bh_t25.cell]; rfl
  go_wp2_with fail
  clear qB00 qB01 qBw0 qBw1 qBx00 qBx01 qBg0 qBg1 qBh0 qBh1
  refine (eqWork_c vz0 vz0 _ _ vl0 vl0 _ _ _ Hh_t26 W_t26 (by omega) (by omega)).mono ?_
  rintro e w15 ⟨rfl, hb15⟩
  rw [HE0.out]
  have W_t27 := W_t26.next hb15
  clear W_t26
  have G_t27 := G_t26.next hb15
  clear G_t26
  have Hh_t27 := Hh_t26.next hb15
  clear Hh_t26
  have B0_t27 := B0_t26.next hb15
  clear B0_t26
  have Bw_t27 := Bw_t26.next hb15
  clear Bw_t26
  have Bx0_t27 := Bx0_t26.next hb15
  clear Bx0_t26
  have Bg_t27 := Bg_t26.next hb15
  clear Bg_t26
  have Bh_t27 := Bh_t25.next hb15
  clear Bh_t25
  have hw_t27 := below_next hw_t26 hb15
  have hs_t27 := hb15.size
  have qB00 : w15.cell? ⟨w.heap.size, 0, none⟩ = some (.int .i64 z0) := by rw [B0_t27.cell]; rfl
  have qB01 : w15.cell? ⟨w.heap.size, 1, none⟩ = some (.slice A0 l0.length c0) := by rw [B0_t27.cell]; rfl
  have qBw0 : w15.cell? ⟨w3.heap.size, 0, none⟩ = some (.int .i64 vz0) := by rw [Bw_t27.cell]; rfl
  have qBw1 : w15.cell? ⟨w3.heap.size, 1, none⟩ = some (.slice bW nW cW) := by rw [Bw_t27.cell]; rfl
  have qBx00 : w15.cell? ⟨w4.heap.size, 0, none⟩ = some (.int .i64 z0) := by rw [Bx0_t27.cell]; rfl
  have qBx01 : w15.cell? ⟨w4.heap.size, 1, none⟩ = some (.slice (some ⟨gX0, 0, none⟩) l0.length l0.length) := by rw [Bx0_t27.cell]; rfl
  have qBg0 : w15.cell? ⟨w5.heap.size, 0, none⟩ = some (.int .i64 vz0) := by rw [Bg_t27.cell]; rfl
  have qBg1 : w15.cell? ⟨w5.heap.size, 1, none⟩ = some (.slice bG nG cG) := by rw [Bg_t27.cell]; rfl
  have qBh0 : w15.cell? ⟨w14.heap.size, 0, none⟩ = some (.int .i64 vz0) := by rw [Bh_t27.cell]; rfl
  have qBh1 : w15.cell? ⟨w14.heap.size, 1, none⟩ = some (.slice bHh nHh cHh) := by rw [Bh_t27.cell]; rfl
  go_wp2_with fail
  clear qB00 qB01 qBw0 qBw1 qBx00 qBx01 qBg0 qBg1 qBh0 qBh1
  refine (heldWork_c vz0 _ vl0.length _ 1 _ G_t27 (by omega) (by omega)).mono ?_
  rintro e w16 ⟨rfl, hb16⟩
  have W_t28 := W_t27.next hb16
  clear W_t27
  have G_t28 := G_t27.next hb16
  clear G_t27
  have Hh_t28 := Hh_t27.next hb16
  clear Hh_t27
  have B0_t28 := B0_t27.next hb16
  clear B0_t27
  have Bw_t28 := Bw_t27.next hb16
  clear Bw_t27
  have Bx0_t28 := Bx0_t27.next hb16
  clear Bx0_t27
  have Bg_t28 := Bg_t27.next hb16
  clear Bg_t27
  have Bh_t28 := Bh_t27.next hb16
  clear Bh_t27
  have hw_t28 := below_next hw_t27 hb16
  have hs_t28 := hb16.size
  have qB00 : w16.cell? ⟨w.heap.size, 0, none⟩ = some (.int .i64 z0) := by rw [B0_t28.cell]; rfl
  have qB01 : w16.cell? ⟨w.heap.size, 1, none⟩ = some (.slice A0 l0.length c0) := by rw [B0_t28.cell]; rfl
  have qBw0 : w16.cell? ⟨w3.heap.size, 0, none⟩ = some (.int .i64 vz0) := by rw [Bw_t28.cell]; rfl
  have qBw1 : w16.cell? ⟨w3.heap.size, 1, none⟩ = some (.slice bW nW cW) := by rw [Bw_t28.cell]; rfl
  have qBx00 : w16.cell? ⟨w4.heap.size, 0, none⟩ = some (.int .i64 z0) := by rw [Bx0_t28.cell]; rfl
  have qBx01 : w16.cell? ⟨w4.heap.size, 1, none⟩ = some (.slice (some ⟨gX0, 0, none⟩) l0.length l0.length) := by rw [Bx0_t28.cell]; rfl
  have qBg0 : w16.cell? ⟨w5.heap.size, 0, none⟩ = some (.int .i64 vz0) := by rw [Bg_t28.cell]; rfl
  have qBg1 : w16.cell? ⟨w5.heap.size, 1, none⟩ = some (.slice bG nG cG) := by rw [Bg_t28.cell]; rfl
  have qBh0 : w16.cell? ⟨w14.heap.size, 0, none⟩ = some (.int .i64 vz0) := by rw [Bh_t28.cell]; rfl
  have qBh1 : w16.cell? ⟨w14.heap.size, 1, none⟩ = some (.slice bHh nHh cHh) := by rw [Bh_t28.cell]; rfl
  go_wp2
  go_ret
  exact ⟨rfl, hw_t28⟩

set_option maxRecDepth 100000 in
theorem lifted (os : Os) (started : os.Started) (H : Type) (enc : TypeId × Value → H) :
    ReturnsInHanded {} Try.checked os 3 .any (Rows.fnExactWorkNewSpec.pre6 enc Try.prog Try.f3 Rows.fnExactWorkNewRow.domain false) (Rows.fnExactWorkNewSpec.post enc Try.prog Try.f3 false true false false) := by
  refine returnsInHanded_of_change (C := Try.checked) Whole.own started (by kernel_rfl) Try.func3
    (ChangeSpec.witness6 (enc := enc) (C := Try.checked) false ⟨#[], #[.agg #[.int .i64 0, .slice none 0 0]], []⟩ 8 (by kernel_rfl) (by kernel_rfl) (by kernel_rfl) (by kernel_rfl)) ?_
  intro W base args ds gs before hval0 hW hcnd _
  have hval : ∀ (j : Nat) t v, Try.f3.params[j]? = some t → args[j]? = some v → Value.okWide Try.prog W .any base t v := hval0
  have hW' := hW
  obtain ⟨p, q, hA0, hV, rfl, hfz, hnd⟩ := hW
  have hA : DataW.TrodAll enc Try.prog W 0 (fun _ => true) true Try.f3.params.toList args.toList ds p := hA0
  rw [Try.params3] at hA hval
  obtain ⟨v0, vs0, d0, ds0, p0, q0, hargs, rfl, rfl, h0, r0⟩ := trodAll_cons hA
  obtain ⟨rfl, rfl, rfl⟩ := trodAll_nil r0
  obtain rfl : args = #[v0] := by cases args; simp_all
  obtain ⟨rfl, rfl⟩ := trodVars_none hV
  have k0 := h0
  have lt0 : ∀ x ∈ p0, x.block < W.heap.size := by obtain ⟨m, hm⟩ := k0; exact DataW.trod_lt m _ _ _ hm
  obtain ⟨z0, A0, c0, l0, rfl, hz0, hc0, hm0, hf0, hr0⟩ := openArgVers (hval 0 24 v0 rfl rfl) h0
  clear hA0 hval0
  refine (walk z0 A0 c0 l0 W hz0 hc0 hm0 hf0 hr0).mono fun e W' ⟨he, bel⟩ => ?_
  subst he
  exact ⟨_, rfl, _, _, _, [], _, [], hW', trodAll_mk1 (shut_bool Try.underlying4 _), (trodAll_cons_mk (Below.trod Whole.laidOut (by kernel_rfl) (of_decide_eq_true (by kernel_rfl)) k0 bel lt0) trodAll_mk0), rfl, bel.frame _, fun h => by cases h⟩

theorem named : Try.prog.funcNamed Rows.fnExactWorkNewRow.func = some 3 := by kernel_rfl
theorem closed : Whole.lawFacts Try.prog 3 Try.f3 Rows.fnExactWorkNewSpec Rows.fnExactWorkNewRow = true := by kernel_rfl
theorem inst : Try.f3.isInstance Try.prog Rows.fnExactWorkNewRow.origin Rows.fnExactWorkNewRow.targs := of_decide_eq_true (by kernel_rfl)
theorem wrap : Try.f3.isWrapper Try.prog Rows.fnExactWorkNewRow.wrapper Rows.fnExactWorkNewRow.mainSum := by
  unfold Func.isWrapper; first | (rw [if_pos (by decide +kernel)]; kernel_rfl) | (rw [if_neg (by decide +kernel)]; exact ⟨rfl, rfl⟩)
theorem over : Rows.fnExactWorkNewRow.holds Try.pinned (OpenSpec.ofChange Rows.fnExactWorkNewSpec) :=
  OpenClaim.holds_of_wide 3 Try.f3 rfl rfl rfl rfl rfl rfl rfl ⟨rfl, rfl, rfl, rfl, rfl⟩ rfl rfl rfl rfl rfl named Try.func3 (Whole.facts_of closed)
    inst wrap (fun os started H enc _ => lifted os started H enc)

theorem proved : Rows.FnExactWorkNewSaid := over
#print axioms proved
end Go.Proofs.Ytbeklnhngjmpiaa.fnExactWorkNew
