/- The law FnWorkEnd: for every code that is drawn from, a commit that is fine publishes just the writes, and if nobody did anything meanwhile all see what one saw; what goes wrong changes nothing, as in the model: for every input the call returns true, and the argument reads afterwards as before. No conditions. -/
import Derived.Test.YtbeklnhngjmpiaaGreatRows
import Derived.Test.YtbeklnhngjmpiaaGreatWhole
import Derived.Test.YtbeklnhngjmpiaaGreatA1
import Derived.Test.YtbeklnhngjmpiaaGreatA4
import Derived.Test.YtbeklnhngjmpiaaGreatDw3
import Derived.Test.YtbeklnhngjmpiaaGreatW3r
import Derived.Test.YtbeklnhngjmpiaaGreatX3h
import Derived.Test.YtbeklnhngjmpiaaGreatS2s
import Derived.WalkKit
import Derived.ProofKit
import Derived.OpenShut
import Derived.ShutString
import Derived.ChangeOld
import Derived.Below
namespace Go.Proofs.YtbeklnhngjmpiaaGreat.fnWorkEnd
open Go.ChangeShapes Go.WideShapes Go.ChangeAt Go.RowKit
open Go.ChangeMaps (open_string shut_string)
set_option linter.unusedVariables false

set_option maxRecDepth 100000 in
set_option maxHeartbeats 1000000 in
theorem walk (A0 : Option Addr) (n0 c0 : Nat) (w : World) (hc0 : n0 ≤ c0) (hm0 : c0 ≤ maxLen) (hr0 : RdB w w.heap.size A0 n0) :
  Calls Tryz.prog 8 #[.slice A0 n0 c0] w fun e w' => e = .returned (.bool true) ∧ Below w.heap.size w w' := by
 by_cases hn_n0 : (1048576 : Int) < (n0 : Int)
 ·
  go_enter Tryz.func8, Tryz.ntmps8
  go_wp2
  go_ret
  exact ⟨rfl, Below.refl _ _⟩
 go_enter Tryz.func8, Tryz.ntmps8
 go_wp2_with fail
 refine (drawWorkEnd A0 n0 c0 w hc0 hm0 hr0).mono ?_
 rintro e w1 ⟨za, Va, la, ab, Vb, lb, rfl, a_n, hfa, hza, hla, b_n, hfb, hab, hlb, hb1⟩
 obtain ⟨ada, ca, rfl, ry1_a, ry2_a, ry3_a⟩ := a_n.read
 clear ry1_a ry2_a ry3_a
 obtain ⟨adb, cb, rfl, ry1_b, ry2_b, ry3_b⟩ := b_n.read
 clear ry1_b ry2_b ry3_b
 have hw_t1 := hb1
 have hs_t1 := hb1.size
 have hb_t3 := below_alloc (Below.refl _ w1) (.cells #[.int .i64 za, .slice ada la.length ca] 34)
 have Ba_t3 := blkA w1 #[.int .i64 za, .slice ada la.length ca] 34
 have hz_t3 : (w1.alloc (.cells #[.int .i64 za, .slice ada la.length ca] 34)).heap.size = w1.heap.size + 1 := World.size_alloc _ _
 have a_t4 := a_n.next hb_t3
 clear a_n
 have b_t4 := b_n.next hb_t3
 clear b_n
 have hw_t4 := below_next hw_t1 hb_t3
 have hs_t4 := hb_t3.size
 have hb_t6 := below_alloc (Below.refl _ (w1.alloc (.cells #[.int .i64 za, .slice ada la.length ca] 34))) (.cells #[.int .i64 ab, .slice adb lb.length cb] 38)
 have Bb_t6 := blkA (w1.alloc (.cells #[.int .i64 za, .slice ada la.length ca] 34)) #[.int .i64 ab, .slice adb lb.length cb] 38
 simp only [World.size_alloc] at Bb_t6
 have hz_t6 : ((w1.alloc (.cells #[.int .i64 za, .slice ada la.length ca] 34)).alloc (.cells #[.int .i64 ab, .slice adb lb.length cb] 38)).heap.size = (w1.alloc (.cells #[.int .i64 za, .slice ada la.length ca] 34)).heap.size + 1 := World.size_alloc _ _
 have a_t7 := a_t4.next hb_t6
 clear a_t4
 have b_t7 := b_t4.next hb_t6
 clear b_t4
 have Ba_t7 := Ba_t3.next hb_t6
 clear Ba_t3
 have hw_t7 := below_next hw_t4 hb_t6
 have hs_t7 := hb_t6.size
 have hel := endL_length za la ab lb (by omega)
 obtain ⟨RZ, RL, RC, HRR⟩ : ∃ RZ RL RC, Hid (endZ za la ab lb = RZ ∧ endL za la ab lb = RL ∧ endC za la ab lb = RC) := ⟨_, _, _, Lib.hid ⟨rfl, rfl, rfl⟩⟩
 rw [HRR.out.2.1] at hel
 have qBa0 : ((w1.alloc (.cells #[.int .i64 za, .slice ada la.length ca] 34)).alloc (.cells #[.int .i64 ab, .slice adb lb.length cb] 38)).cell? ⟨w1.heap.size, 0, none⟩ = some (.int .i64 za) := by rw [Ba_t7.cell]; rfl
 have qBa1 : ((w1.alloc (.cells #[.int .i64 za, .slice ada la.length ca] 34)).alloc (.cells #[.int .i64 ab, .slice adb lb.length cb] 38)).cell? ⟨w1.heap.size, 1, none⟩ = some (.slice ada la.length ca) := by rw [Ba_t7.cell]; rfl
 have qBb0 : ((w1.alloc (.cells #[.int .i64 za, .slice ada la.length ca] 34)).alloc (.cells #[.int .i64 ab, .slice adb lb.length cb] 38)).cell? ⟨w1.heap.size + 1, 0, none⟩ = some (.int .i64 ab) := by rw [Bb_t6.cell]; rfl
 have qBb1 : ((w1.alloc (.cells #[.int .i64 za, .slice ada la.length ca] 34)).alloc (.cells #[.int .i64 ab, .slice adb lb.length cb] 38)).cell? ⟨w1.heap.size + 1, 1, none⟩ = some (.slice adb lb.length cb) := by rw [Bb_t6.cell]; rfl
 go_wp2_with fail
 clear qBa0 qBa1 qBb0 qBb1
 refine (implWorkEndO a_t7 b_t7 hfa hfb (by omega) (by omega)).mono ?_
 rw [HRR.out.1, HRR.out.2.1, HRR.out.2.2]
 rintro e w2 ⟨Vx, rfl, x_n, hb2⟩
 obtain ⟨adx, cx, rfl, ry1_x, ry2_x, ry3_x⟩ := x_n.read
 clear ry1_x ry2_x ry3_x
 have a_t9 := a_t7.next hb2
 clear a_t7
 have b_t9 := b_t7.next hb2
 clear b_t7
 have Ba_t9 := Ba_t7.next hb2
 clear Ba_t7
 have Bb_t9 := Bb_t6.next hb2
 clear Bb_t6
 have hw_t9 := below_next hw_t7 hb2
 have hs_t9 := hb2.size
 have hb_t11 := below_alloc (Below.refl _ w2) (.cells #[.int .i64 RZ, .slice adx RL.length cx] 34)
 have Bx_t11 := blkA w2 #[.int .i64 RZ, .slice adx RL.length cx] 34
 have hz_t11 : (w2.alloc (.cells #[.int .i64 RZ, .slice adx RL.length cx] 34)).heap.size = w2.heap.size + 1 := World.size_alloc _ _
 have a_t12 := a_t9.next hb_t11
 clear a_t9
 have b_t12 := b_t9.next hb_t11
 clear b_t9
 have x_t12 := x_n.next hb_t11
 clear x_n
 have Ba_t12 := Ba_t9.next hb_t11
 clear Ba_t9
 have Bb_t12 := Bb_t9.next hb_t11
 clear Bb_t9
 have hw_t12 := below_next hw_t9 hb_t11
 have hs_t12 := hb_t11.size
 have qBa0 : (w2.alloc (.cells #[.int .i64 RZ, .slice adx RL.length cx] 34)).cell? ⟨w1.heap.size, 0, none⟩ = some (.int .i64 za) := by rw [Ba_t12.cell]; rfl
 have qBa1 : (w2.alloc (.cells #[.int .i64 RZ, .slice adx RL.length cx] 34)).cell? ⟨w1.heap.size, 1, none⟩ = some (.slice ada la.length ca) := by rw [Ba_t12.cell]; rfl
 have qBb0 : (w2.alloc (.cells #[.int .i64 RZ, .slice adx RL.length cx] 34)).cell? ⟨w1.heap.size + 1, 0, none⟩ = some (.int .i64 ab) := by rw [Bb_t12.cell]; rfl
 have qBb1 : (w2.alloc (.cells #[.int .i64 RZ, .slice adx RL.length cx] 34)).cell? ⟨w1.heap.size + 1, 1, none⟩ = some (.slice adb lb.length cb) := by rw [Bb_t12.cell]; rfl
 have qBx0 : (w2.alloc (.cells #[.int .i64 RZ, .slice adx RL.length cx] 34)).cell? ⟨w2.heap.size, 0, none⟩ = some (.int .i64 RZ) := by rw [Bx_t11.cell]; rfl
 have qBx1 : (w2.alloc (.cells #[.int .i64 RZ, .slice adx RL.length cx] 34)).cell? ⟨w2.heap.size, 1, none⟩ = some (.slice adx RL.length cx) := by rw [Bx_t11.cell]; rfl
 go_wp2_with fail
 clear qBa0 qBa1 qBb0 qBb1 qBx0 qBx1
 refine (specWorkEndO a_t12 b_t12 hfa hfb (by omega) (by omega)).mono ?_
 rw [HRR.out.1, HRR.out.2.1, HRR.out.2.2]
 rintro e w3 ⟨Vy, rfl, y_n, hb3⟩
 obtain ⟨ady, cy, rfl, ry1_y, ry2_y, ry3_y⟩ := y_n.read
 clear ry1_y ry2_y ry3_y
 have a_t14 := a_t12.next hb3
 clear a_t12
 have b_t14 := b_t12.next hb3
 clear b_t12
 have x_t14 := x_t12.next hb3
 clear x_t12
 have Ba_t14 := Ba_t12.next hb3
 clear Ba_t12
 have Bb_t14 := Bb_t12.next hb3
 clear Bb_t12
 have Bx_t14 := Bx_t11.next hb3
 clear Bx_t11
 have hw_t14 := below_next hw_t12 hb3
 have hs_t14 := hb3.size
 have hb_t16 := below_alloc (Below.refl _ w3) (.cells #[.int .i64 RZ, .slice ady RL.length cy] 34)
 have By_t16 := blkA w3 #[.int .i64 RZ, .slice ady RL.length cy] 34
 have hz_t16 : (w3.alloc (.cells #[.int .i64 RZ, .slice ady RL.length cy] 34)).heap.size = w3.heap.size + 1 := World.size_alloc _ _
 have a_t17 := a_t14.next hb_t16
 clear a_t14
 have b_t17 := b_t14.next hb_t16
 clear b_t14
 have x_t17 := x_t14.next hb_t16
 clear x_t14
 have y_t17 := y_n.next hb_t16
 clear y_n
 have Ba_t17 := Ba_t14.next hb_t16
 clear Ba_t14
 have Bb_t17 := Bb_t14.next hb_t16
 clear Bb_t14
 have Bx_t17 := Bx_t14.next hb_t16
 clear Bx_t14
 have hw_t17 := below_next hw_t14 hb_t16
 have hs_t17 := hb_t16.size
 have hrc : (RC != RC) = false := by simp
 have qBa0 : (w3.alloc (.cells #[.int .i64 RZ, .slice ady RL.length cy] 34)).cell? ⟨w1.heap.size, 0, none⟩ = some (.int .i64 za) := by rw [Ba_t17.cell]; rfl
 have qBa1 : (w3.alloc (.cells #[.int .i64 RZ, .slice ady RL.length cy] 34)).cell? ⟨w1.heap.size, 1, none⟩ = some (.slice ada la.length ca) := by rw [Ba_t17.cell]; rfl
 have qBb0 : (w3.alloc (.cells #[.int .i64 RZ, .slice ady RL.length cy] 34)).cell? ⟨w1.heap.size + 1, 0, none⟩ = some (.int .i64 ab) := by rw [Bb_t17.cell]; rfl
 have qBb1 : (w3.alloc (.cells #[.int .i64 RZ, .slice ady RL.length cy] 34)).cell? ⟨w1.heap.size + 1, 1, none⟩ = some (.slice adb lb.length cb) := by rw [Bb_t17.cell]; rfl
 have qBx0 : (w3.alloc (.cells #[.int .i64 RZ, .slice ady RL.length cy] 34)).cell? ⟨w2.heap.size, 0, none⟩ = some (.int .i64 RZ) := by rw [Bx_t17.cell]; rfl
 have qBx1 : (w3.alloc (.cells #[.int .i64 RZ, .slice ady RL.length cy] 34)).cell? ⟨w2.heap.size, 1, none⟩ = some (.slice adx RL.length cx) := by rw [Bx_t17.cell]; rfl
 have qBy0 : (w3.alloc (.cells #[.int .i64 RZ, .slice ady RL.length cy] 34)).cell? ⟨w3.heap.size, 0, none⟩ = some (.int .i64 RZ) := by rw [By_t16.cell]; rfl
 have qBy1 : (w3.alloc (.cells #[.int .i64 RZ, .slice ady RL.length cy] 34)).cell? ⟨w3.heap.size, 1, none⟩ = some (.slice ady RL.length cy) := by rw [By_t16.cell]; rfl
 go_wp2_with fail
 clear qBa0 qBa1 qBb0 qBb1 qBx0 qBx1 qBy0 qBy1
 refine (implSameO x_t17 y_t17 (by omega) (by omega)).mono ?_
 rintro e w4 ⟨rfl, hb4⟩
 rw [sameB_refl]
 have a_t19 := a_t17.next hb4
 clear a_t17
 have b_t19 := b_t17.next hb4
 clear b_t17
 have x_t19 := x_t17.next hb4
 clear x_t17
 have y_t19 := y_t17.next hb4
 clear y_t17
 have Ba_t19 := Ba_t17.next hb4
 clear Ba_t17
 have Bb_t19 := Bb_t17.next hb4
 clear Bb_t17
 have Bx_t19 := Bx_t17.next hb4
 clear Bx_t17
 have By_t19 := By_t16.next hb4
 clear By_t16
 have hw_t19 := below_next hw_t17 hb4
 have hs_t19 := hb4.size
 clear hrc
 clear y_t19
 by_cases hc : RC = 0
 ·
  subst hc
  have HC0 : Hid (endC za la ab lb = 0) := Lib.hid HRR.out.2.2
  have HE1 : Hid (endZ za la ab lb = RZ) := Lib.hid HRR.out.1
  have HE2 : Hid (endL za la ab lb = RL) := Lib.hid HRR.out.2.1
  have hfR : FitVs RL := by rw [← HE2.out]; exact fit_end HC0.out hfa hfb
  have hRl := fine_len HC0.out
  rw [HE1.out, HE2.out] at hRl
  obtain ⟨hRl, hRz0, hRz1⟩ := hRl
  clear HRR
  obtain ⟨hv, hg, he⟩ := end_sees HC0.out HE1.out HE2.out
  have HV := Lib.hid hv
  have HG := Lib.hid hg
  have HEQ := Lib.hid he
  clear hv hg he
  have hl_R1 := versAt_length RZ RL RZ
  have hf_R1 : FitR (versAt RZ RL RZ) := fitR_versAt (z := RZ) hfR RZ
  obtain ⟨R1, HR1⟩ : ∃ R1, Hid (versAt RZ RL RZ = R1) := ⟨_, Lib.hid rfl⟩
  rw [HR1.out] at hl_R1 hf_R1
  rw [HR1.out] at HG HEQ
  have qBa0 : w4.cell? ⟨w1.heap.size, 0, none⟩ = some (.int .i64 za) := by rw [Ba_t19.cell]; rfl
  have qBa1 : w4.cell? ⟨w1.heap.size, 1, none⟩ = some (.slice ada la.length ca) := by rw [Ba_t19.cell]; rfl
  have qBb0 : w4.cell? ⟨w1.heap.size + 1, 0, none⟩ = some (.int .i64 ab) := by rw [Bb_t19.cell]; rfl
  have qBb1 : w4.cell? ⟨w1.heap.size + 1, 1, none⟩ = some (.slice adb lb.length cb) := by rw [Bb_t19.cell]; rfl
  have qBx0 : w4.cell? ⟨w2.heap.size, 0, none⟩ = some (.int .i64 RZ) := by rw [Bx_t19.cell]; rfl
  have qBx1 : w4.cell? ⟨w2.heap.size, 1, none⟩ = some (.slice adx RL.length cx) := by rw [Bx_t19.cell]; rfl
  go_wp2_with fail
  clear qBa0 qBa1 qBb0 qBb1 qBx0 qBx1
  refine (implVersAtO RZ x_t19 hfR (by omega)).mono ?_
  rw [HR1.out]
  rintro e w5 ⟨Vr, rfl, r_n, hb5⟩
  obtain ⟨adr, cr, rfl, ry1_r, ry2_r, ry3_r⟩ := r_n.read
  clear ry1_r ry2_r ry3_r
  have a_t21 := a_t19.next hb5
  clear a_t19
  have b_t21 := b_t19.next hb5
  clear b_t19
  have x_t21 := x_t19.next hb5
  clear x_t19
  have Ba_t21 := Ba_t19.next hb5
  clear Ba_t19
  have Bb_t21 := Bb_t19.next hb5
  clear Bb_t19
  have Bx_t21 := Bx_t19.next hb5
  clear Bx_t19
  have hw_t21 := below_next hw_t19 hb5
  have hs_t21 := hb5.size
  have qBa0 : w5.cell? ⟨w1.heap.size, 0, none⟩ = some (.int .i64 za) := by rw [Ba_t21.cell]; rfl
  have qBa1 : w5.cell? ⟨w1.heap.size, 1, none⟩ = some (.slice ada la.length ca) := by rw [Ba_t21.cell]; rfl
  have qBb0 : w5.cell? ⟨w1.heap.size + 1, 0, none⟩ = some (.int .i64 ab) := by rw [Bb_t21.cell]; rfl
  have qBb1 : w5.cell? ⟨w1.heap.size + 1, 1, none⟩ = some (.slice adb lb.length cb) := by rw [Bb_t21.cell]; rfl
  have qBx0 : w5.cell? ⟨w2.heap.size, 0, none⟩ = some (.int .i64 RZ) := by rw [Bx_t21.cell]; rfl
  have qBx1 : w5.cell? ⟨w2.heap.size, 1, none⟩ = some (.slice adx RL.length cx) := by rw [Bx_t21.cell]; rfl
  go_wp2
  clear qBa0 qBa1 qBb0 qBb1 qBx0 qBx1
  go_loopw [10] (fun i W => ∃ k : Nat, k ≤ lb.length ∧ i = .int .i64 k ∧ Below w5.heap.size w5 W) (fun i _ => lb.length - (intOf i).toNat)
  case atStart => exact ⟨0, Nat.zero_le _, rfl, Below.refl _ _⟩
  case round =>
   obtain ⟨k, hk, rfl, hbl⟩ := hrel
   have lq0 := hbl
   have a_t23 := a_t21.next hbl
   clear a_t21
   have b_t23 := b_t21.next hbl
   clear b_t21
   have x_t23 := x_t21.next hbl
   clear x_t21
   have r_t23 := r_n.next hbl
   clear r_n
   have Ba_t23 := Ba_t21.next hbl
   clear Ba_t21
   have Bb_t23 := Bb_t21.next hbl
   clear Bb_t21
   have Bx_t23 := Bx_t21.next hbl
   clear Bx_t21
   have hw_t23 := below_next hw_t21 hbl
   have hs_t23 := hbl.size
   by_cases hlt : k < lb.length
   ·
    obtain ⟨ebE, eoE, rfl, hqE, _⟩ := (b_t23.rd'.2.2.2).atX hlt
    clear hqE
    have hkI := lenI _ _ hlt
    have HGK := Lib.hid (HG.out lb[k] (List.getElem_mem hlt))
    cases hg : lb[k].g
    ·
     have HGG : Hid (getN R1 lb[k].k = lb[k].n ∧ getB R1 lb[k].k = true) := Lib.hid ⟨HGK.out.2 hg, by rw [HGK.out.1, hg]; rfl⟩
     have qBa0 : wr.cell? ⟨w1.heap.size, 0, none⟩ = some (.int .i64 za) := by rw [Ba_t23.cell]; rfl
     have qBa1 : wr.cell? ⟨w1.heap.size, 1, none⟩ = some (.slice ada la.length ca) := by rw [Ba_t23.cell]; rfl
     have qBb0 : wr.cell? ⟨w1.heap.size + 1, 0, none⟩ = some (.int .i64 ab) := by rw [Bb_t23.cell]; rfl
     have qBb1 : wr.cell? ⟨w1.heap.size + 1, 1, none⟩ = some (.slice (some ⟨ebE, eoE, none⟩) lb.length cb) := by rw [Bb_t23.cell]; rfl
     have qBx0 : wr.cell? ⟨w2.heap.size, 0, none⟩ = some (.int .i64 RZ) := by rw [Bx_t23.cell]; rfl
     have qBx1 : wr.cell? ⟨w2.heap.size, 1, none⟩ = some (.slice adx RL.length cx) := by rw [Bx_t23.cell]; rfl
     have qE0 : wr.cell? ⟨ebE, eoE + k * 3, none⟩ = some (.string lb[k].k) := ((b_t23.rd'.2.2.2).fixX rfl hlt).1
     have qE1 : wr.cell? ⟨ebE, eoE + k * 3 + 1, none⟩ = some (.int .i64 lb[k].n) := ((b_t23.rd'.2.2.2).fixX rfl hlt).2.1
     have qE2 : wr.cell? ⟨ebE, eoE + k * 3 + 2, none⟩ = some (.bool lb[k].g) := ((b_t23.rd'.2.2.2).fixX rfl hlt).2.2
     go_wp2_with fail
     clear qBa0 qBa1 qBb0 qBb1 qBx0 qBx1
     clear qE0 qE1 qE2
     refine (implGetO lb[k].k r_t23 hf_R1 (by omega)).mono ?_
     rintro e w6 ⟨rfl, hb6⟩
     rw [HGG.out.1, HGG.out.2]
     have a_t25 := a_t23.next hb6
     clear a_t23
     have b_t25 := b_t23.next hb6
     clear b_t23
     have x_t25 := x_t23.next hb6
     clear x_t23
     have r_t25 := r_t23.next hb6
     clear r_t23
     have Ba_t25 := Ba_t23.next hb6
     clear Ba_t23
     have Bb_t25 := Bb_t23.next hb6
     clear Bb_t23
     have Bx_t25 := Bx_t23.next hb6
     clear Bx_t23
     have hw_t25 := below_next hw_t23 hb6
     have hs_t25 := hb6.size
     have lw0_t26 := below_next lq0 hb6
     have qBa0 : w6.cell? ⟨w1.heap.size, 0, none⟩ = some (.int .i64 za) := by rw [Ba_t25.cell]; rfl
     have qBa1 : w6.cell? ⟨w1.heap.size, 1, none⟩ = some (.slice ada la.length ca) := by rw [Ba_t25.cell]; rfl
     have qBb0 : w6.cell? ⟨w1.heap.size + 1, 0, none⟩ = some (.int .i64 ab) := by rw [Bb_t25.cell]; rfl
     have qBb1 : w6.cell? ⟨w1.heap.size + 1, 1, none⟩ = some (.slice (some ⟨ebE, eoE, none⟩) lb.length cb) := by rw [Bb_t25.cell]; rfl
     have qBx0 : w6.cell? ⟨w2.heap.size, 0, none⟩ = some (.int .i64 RZ) := by rw [Bx_t25.cell]; rfl
     have qBx1 : w6.cell? ⟨w2.heap.size, 1, none⟩ = some (.slice adx RL.length cx) := by rw [Bx_t25.cell]; rfl
     have qE0 : w6.cell? ⟨ebE, eoE + k * 3, none⟩ = some (.string lb[k].k) := ((b_t25.rd'.2.2.2).fixX rfl hlt).1
     have qE1 : w6.cell? ⟨ebE, eoE + k * 3 + 1, none⟩ = some (.int .i64 lb[k].n) := ((b_t25.rd'.2.2.2).fixX rfl hlt).2.1
     have qE2 : w6.cell? ⟨ebE, eoE + k * 3 + 2, none⟩ = some (.bool lb[k].g) := ((b_t25.rd'.2.2.2).fixX rfl hlt).2.2
     go_wp2
     go_roundw
     case rel => exact ⟨k + 1, by omega, by go_num, lw0_t26⟩
     case measure => simp [intOf]; omega
    ·
     obtain ⟨GN, HGN⟩ : ∃ GN, Hid (getN R1 lb[k].k = GN) := ⟨_, Lib.hid rfl⟩
     have HGG : Hid (getB R1 lb[k].k = false) := Lib.hid (by rw [HGK.out.1, hg]; rfl)
     have qBa0 : wr.cell? ⟨w1.heap.size, 0, none⟩ = some (.int .i64 za) := by rw [Ba_t23.cell]; rfl
     have qBa1 : wr.cell? ⟨w1.heap.size, 1, none⟩ = some (.slice ada la.length ca) := by rw [Ba_t23.cell]; rfl
     have qBb0 : wr.cell? ⟨w1.heap.size + 1, 0, none⟩ = some (.int .i64 ab) := by rw [Bb_t23.cell]; rfl
     have qBb1 : wr.cell? ⟨w1.heap.size + 1, 1, none⟩ = some (.slice (some ⟨ebE, eoE, none⟩) lb.length cb) := by rw [Bb_t23.cell]; rfl
     have qBx0 : wr.cell? ⟨w2.heap.size, 0, none⟩ = some (.int .i64 RZ) := by rw [Bx_t23.cell]; rfl
     have qBx1 : wr.cell? ⟨w2.heap.size, 1, none⟩ = some (.slice adx RL.length cx) := by rw [Bx_t23.cell]; rfl
     have qE0 : wr.cell? ⟨ebE, eoE + k * 3, none⟩ = some (.string lb[k].k) := ((b_t23.rd'.2.2.2).fixX rfl hlt).1
     have qE1 : wr.cell? ⟨ebE, eoE + k * 3 + 1, none⟩ = some (.int .i64 lb[k].n) := ((b_t23.rd'.2.2.2).fixX rfl hlt).2.1
     have qE2 : wr.cell? ⟨ebE, eoE + k * 3 + 2, none⟩ = some (.bool lb[k].g) := ((b_t23.rd'.2.2.2).fixX rfl hlt).2.2
     go_wp2_with fail
     clear qBa0 qBa1 qBb0 qBb1 qBx0 qBx1
     clear qE0 qE1 qE2
     refine (implGetO lb[k].k r_t23 hf_R1 (by omega)).mono ?_
     rintro e w6 ⟨rfl, hb6⟩
     rw [HGN.out, HGG.out]
     have a_t25 := a_t23.next hb6
     clear a_t23
     have b_t25 := b_t23.next hb6
     clear b_t23
     have x_t25 := x_t23.next hb6
     clear x_t23
     have r_t25 := r_t23.next hb6
     clear r_t23
     have Ba_t25 := Ba_t23.next hb6
     clear Ba_t23
     have Bb_t25 := Bb_t23.next hb6
     clear Bb_t23
     have Bx_t25 := Bx_t23.next hb6
     clear Bx_t23
     have hw_t25 := below_next hw_t23 hb6
     have hs_t25 := hb6.size
     have lw0_t26 := below_next lq0 hb6
     have qBa0 : w6.cell? ⟨w1.heap.size, 0, none⟩ = some (.int .i64 za) := by rw [Ba_t25.cell]; rfl
     have qBa1 : w6.cell? ⟨w1.heap.size, 1, none⟩ = some (.slice ada la.length ca) := by rw [Ba_t25.cell]; rfl
     have qBb0 : w6.cell? ⟨w1.heap.size + 1, 0, none⟩ = some (.int .i64 ab) := by rw [Bb_t25.cell]; rfl
     have qBb1 : w6.cell? ⟨w1.heap.size + 1, 1, none⟩ = some (.slice (some ⟨ebE, eoE, none⟩) lb.length cb) := by rw [Bb_t25.cell]; rfl
     have qBx0 : w6.cell? ⟨w2.heap.size, 0, none⟩ = some (.int .i64 RZ) := by rw [Bx_t25.cell]; rfl
     have qBx1 : w6.cell? ⟨w2.heap.size, 1, none⟩ = some (.slice adx RL.length cx) := by rw [Bx_t25.cell]; rfl
     have qE0 : w6.cell? ⟨ebE, eoE + k * 3, none⟩ = some (.string lb[k].k) := ((b_t25.rd'.2.2.2).fixX rfl hlt).1
     have qE1 : w6.cell? ⟨ebE, eoE + k * 3 + 1, none⟩ = some (.int .i64 lb[k].n) := ((b_t25.rd'.2.2.2).fixX rfl hlt).2.1
     have qE2 : w6.cell? ⟨ebE, eoE + k * 3 + 2, none⟩ = some (.bool lb[k].g) := ((b_t25.rd'.2.2.2).fixX rfl hlt).2.2
     go_wp2
     go_roundw
     case rel => exact ⟨k + 1, by omega, by go_num, lw0_t26⟩
     case measure => simp [intOf]; omega
   ·
    have hkI : decide ((k : Int) < (lb.length : Int)) = false := decide_eq_false (by omega)
    have qBa0 : wr.cell? ⟨w1.heap.size, 0, none⟩ = some (.int .i64 za) := by rw [Ba_t23.cell]; rfl
    have qBa1 : wr.cell? ⟨w1.heap.size, 1, none⟩ = some (.slice ada la.length ca) := by rw [Ba_t23.cell]; rfl
    have qBb0 : wr.cell? ⟨w1.heap.size + 1, 0, none⟩ = some (.int .i64 ab) := by rw [Bb_t23.cell]; rfl
    have qBb1 : wr.cell? ⟨w1.heap.size + 1, 1, none⟩ = some (.slice adb lb.length cb) := by rw [Bb_t23.cell]; rfl
    have qBx0 : wr.cell? ⟨w2.heap.size, 0, none⟩ = some (.int .i64 RZ) := by rw [Bx_t23.cell]; rfl
    have qBx1 : wr.cell? ⟨w2.heap.size, 1, none⟩ = some (.slice adx RL.length cx) := by rw [Bx_t23.cell]; rfl
    go_wp2_with fail
    clear qBa0 qBa1 qBb0 qBb1 qBx0 qBx1
    refine (implVersOkO x_t23 hfR).mono ?_
    rintro e w6 ⟨rfl, hb6⟩
    rw [HV.out]
    have a_t25 := a_t23.next hb6
    clear a_t23
    have b_t25 := b_t23.next hb6
    clear b_t23
    have x_t25 := x_t23.next hb6
    clear x_t23
    have r_t25 := r_t23.next hb6
    clear r_t23
    have Ba_t25 := Ba_t23.next hb6
    clear Ba_t23
    have Bb_t25 := Bb_t23.next hb6
    clear Bb_t23
    have Bx_t25 := Bx_t23.next hb6
    clear Bx_t23
    have hw_t25 := below_next hw_t23 hb6
    have hs_t25 := hb6.size
    have lw0_t26 := below_next lq0 hb6
    by_cases ha : ab = za
    ·
     have HEW : Hid (workRows za la ab lb = R1) := Lib.hid (HEQ.out ha).symm
     have he1 : (ab != za) = false := by simp [ha]
     clear ha
     have qBa0 : w6.cell? ⟨w1.heap.size, 0, none⟩ = some (.int .i64 za) := by rw [Ba_t25.cell]; rfl
     have qBa1 : w6.cell? ⟨w1.heap.size, 1, none⟩ = some (.slice ada la.length ca) := by rw [Ba_t25.cell]; rfl
     have qBb0 : w6.cell? ⟨w1.heap.size + 1, 0, none⟩ = some (.int .i64 ab) := by rw [Bb_t25.cell]; rfl
     have qBb1 : w6.cell? ⟨w1.heap.size + 1, 1, none⟩ = some (.slice adb lb.length cb) := by rw [Bb_t25.cell]; rfl
     have qBx0 : w6.cell? ⟨w2.heap.size, 0, none⟩ = some (.int .i64 RZ) := by rw [Bx_t25.cell]; rfl
     have qBx1 : w6.cell? ⟨w2.heap.size, 1, none⟩ = some (.slice adx RL.length cx) := by rw [Bx_t25.cell]; rfl
     go_wp2_with fail
     clear qBa0 qBa1 qBb0 qBb1 qBx0 qBx1
     refine (implWorkRowsO a_t25 b_t25 hfa hfb (by omega) (by omega)).mono ?_
     rw [HEW.out]
     rintro e w7 ⟨Vs, rfl, s_n, hb7⟩
     obtain ⟨ads, cs, rfl, ry1_s, ry2_s, ry3_s⟩ := s_n.read
     clear ry1_s ry2_s ry3_s
     have a_t27 := a_t25.next hb7
     clear a_t25
     have b_t27 := b_t25.next hb7
     clear b_t25
     have x_t27 := x_t25.next hb7
     clear x_t25
     have r_t27 := r_t25.next hb7
     clear r_t25
     have Ba_t27 := Ba_t25.next hb7
     clear Ba_t25
     have Bb_t27 := Bb_t25.next hb7
     clear Bb_t25
     have Bx_t27 := Bx_t25.next hb7
     clear Bx_t25
     have hw_t27 := below_next hw_t25 hb7
     have hs_t27 := hb7.size
     have lw0_t28 := below_next lw0_t26 hb7
     have qBa0 : w7.cell? ⟨w1.heap.size, 0, none⟩ = some (.int .i64 za) := by rw [Ba_t27.cell]; rfl
     have qBa1 : w7.cell? ⟨w1.heap.size, 1, none⟩ = some (.slice ada la.length ca) := by rw [Ba_t27.cell]; rfl
     have qBb0 : w7.cell? ⟨w1.heap.size + 1, 0, none⟩ = some (.int .i64 ab) := by rw [Bb_t27.cell]; rfl
     have qBb1 : w7.cell? ⟨w1.heap.size + 1, 1, none⟩ = some (.slice adb lb.length cb) := by rw [Bb_t27.cell]; rfl
     have qBx0 : w7.cell? ⟨w2.heap.size, 0, none⟩ = some (.int .i64 RZ) := by rw [Bx_t27.cell]; rfl
     have qBx1 : w7.cell? ⟨w2.heap.size, 1, none⟩ = some (.slice adx RL.length cx) := by rw [Bx_t27.cell]; rfl
     go_wp2_with fail
     clear qBa0 qBa1 qBb0 qBb1 qBx0 qBx1
     refine (wpO r_t27 s_n (by omega) (by omega)).mono ?_
     rintro e w8 ⟨rfl, hb8⟩
     rw [eqL_yes rfl]
     have a_t29 := a_t27.next hb8
     clear a_t27
     have b_t29 := b_t27.next hb8
     clear b_t27
     have x_t29 := x_t27.next hb8
     clear x_t27
     have r_t29 := r_t27.next hb8
     clear r_t27
     have s_t29 := s_n.next hb8
     clear s_n
     have Ba_t29 := Ba_t27.next hb8
     clear Ba_t27
     have Bb_t29 := Bb_t27.next hb8
     clear Bb_t27
     have Bx_t29 := Bx_t27.next hb8
     clear Bx_t27
     have hw_t29 := below_next hw_t27 hb8
     have hs_t29 := hb8.size
     have lw0_t30 := below_next lw0_t28 hb8
     have qBa0 : w8.cell? ⟨w1.heap.size, 0, none⟩ = some (.int .i64 za) := by rw [Ba_t29.cell]; rfl
     have qBa1 : w8.cell? ⟨w1.heap.size, 1, none⟩ = some (.slice ada la.length ca) := by rw [Ba_t29.cell]; rfl
     have qBb0 : w8.cell? ⟨w1.heap.size + 1, 0, none⟩ = some (.int .i64 ab) := by rw [Bb_t29.cell]; rfl
     have qBb1 : w8.cell? ⟨w1.heap.size + 1, 1, none⟩ = some (.slice adb lb.length cb) := by rw [Bb_t29.cell]; rfl
     have qBx0 : w8.cell? ⟨w2.heap.size, 0, none⟩ = some (.int .i64 RZ) := by rw [Bx_t29.cell]; rfl
     have qBx1 : w8.cell? ⟨w2.heap.size, 1, none⟩ = some (.slice adx RL.length cx) := by rw [Bx_t29.cell]; rfl
     go_wp2
     go_ret
     exact ⟨rfl, hw_t29⟩
    ·
     have he1 : (ab != za) = true := by simp; exact ha
     have he2 : (ab == za) = false := by simp; exact ha
     have qBa0 : w6.cell? ⟨w1.heap.size, 0, none⟩ = some (.int .i64 za) := by rw [Ba_t25.cell]; rfl
     have qBa1 : w6.cell? ⟨w1.heap.size, 1, none⟩ = some (.slice ada la.length ca) := by rw [Ba_t25.cell]; rfl
     have qBb0 : w6.cell? ⟨w1.heap.size + 1, 0, none⟩ = some (.int .i64 ab) := by rw [Bb_t25.cell]; rfl
     have qBb1 : w6.cell? ⟨w1.heap.size + 1, 1, none⟩ = some (.slice adb lb.length cb) := by rw [Bb_t25.cell]; rfl
     have qBx0 : w6.cell? ⟨w2.heap.size, 0, none⟩ = some (.int .i64 RZ) := by rw [Bx_t25.cell]; rfl
     have qBx1 : w6.cell? ⟨w2.heap.size, 1, none⟩ = some (.slice adx RL.length cx) := by rw [Bx_t25.cell]; rfl
     go_wp2
     go_ret
     exact ⟨rfl, hw_t25⟩
 ·
  have hn1_RC : (RC == 0) = false := by simp; exact hc
  have hn2_RC : (RC != 0) = true := by simp; exact hc
  rcases end_not (show endC za la ab lb ≠ 0 from by rw [HRR.out.2.2]; exact hc) with ⟨hv, e1, e2⟩ | ⟨hv, e1, e2⟩
  ·
   have HSB : Hid (sameB RZ za RL la = true) := Lib.hid (by rw [← HRR.out.1, ← HRR.out.2.1, e1, e2]; exact sameB_refl za la)
   clear e1 e2 HRR hc
   have qBa0 : w4.cell? ⟨w1.heap.size, 0, none⟩ = some (.int .i64 za) := by rw [Ba_t19.cell]; rfl
   have qBa1 : w4.cell? ⟨w1.heap.size, 1, none⟩ = some (.slice ada la.length ca) := by rw [Ba_t19.cell]; rfl
   have qBb0 : w4.cell? ⟨w1.heap.size + 1, 0, none⟩ = some (.int .i64 ab) := by rw [Bb_t19.cell]; rfl
   have qBb1 : w4.cell? ⟨w1.heap.size + 1, 1, none⟩ = some (.slice adb lb.length cb) := by rw [Bb_t19.cell]; rfl
   have qBx0 : w4.cell? ⟨w2.heap.size, 0, none⟩ = some (.int .i64 RZ) := by rw [Bx_t19.cell]; rfl
   have qBx1 : w4.cell? ⟨w2.heap.size, 1, none⟩ = some (.slice adx RL.length cx) := by rw [Bx_t19.cell]; rfl
   go_wp2_with fail
   clear qBa0 qBa1 qBb0 qBb1 qBx0 qBx1
   refine (specWorkOkO a_t19 b_t19 hfa hfb (by omega) (by omega)).mono ?_
   rintro e w5 ⟨rfl, hb5⟩
   rw [hv]
   have a_t21 := a_t19.next hb5
   clear a_t19
   have b_t21 := b_t19.next hb5
   clear b_t19
   have x_t21 := x_t19.next hb5
   clear x_t19
   have Ba_t21 := Ba_t19.next hb5
   clear Ba_t19
   have Bb_t21 := Bb_t19.next hb5
   clear Bb_t19
   have Bx_t21 := Bx_t19.next hb5
   clear Bx_t19
   have hw_t21 := below_next hw_t19 hb5
   have hs_t21 := hb5.size
   have qBa0 : w5.cell? ⟨w1.heap.size, 0, none⟩ = some (.int .i64 za) := by rw [Ba_t21.cell]; rfl
   have qBa1 : w5.cell? ⟨w1.heap.size, 1, none⟩ = some (.slice ada la.length ca) := by rw [Ba_t21.cell]; rfl
   have qBb0 : w5.cell? ⟨w1.heap.size + 1, 0, none⟩ = some (.int .i64 ab) := by rw [Bb_t21.cell]; rfl
   have qBb1 : w5.cell? ⟨w1.heap.size + 1, 1, none⟩ = some (.slice adb lb.length cb) := by rw [Bb_t21.cell]; rfl
   have qBx0 : w5.cell? ⟨w2.heap.size, 0, none⟩ = some (.int .i64 RZ) := by rw [Bx_t21.cell]; rfl
   have qBx1 : w5.cell? ⟨w2.heap.size, 1, none⟩ = some (.slice adx RL.length cx) := by rw [Bx_t21.cell]; rfl
   go_wp2_with fail
   clear qBa0 qBa1 qBb0 qBb1 qBx0 qBx1
   refine (implSameO x_t21 a_t21 (by omega) (by omega)).mono ?_
   rintro e w6 ⟨rfl, hb6⟩
   rw [HSB.out]
   have a_t23 := a_t21.next hb6
   clear a_t21
   have b_t23 := b_t21.next hb6
   clear b_t21
   have x_t23 := x_t21.next hb6
   clear x_t21
   have Ba_t23 := Ba_t21.next hb6
   clear Ba_t21
   have Bb_t23 := Bb_t21.next hb6
   clear Bb_t21
   have Bx_t23 := Bx_t21.next hb6
   clear Bx_t21
   have hw_t23 := below_next hw_t21 hb6
   have hs_t23 := hb6.size
   have qBa0 : w6.cell? ⟨w1.heap.size, 0, none⟩ = some (.int .i64 za) := by rw [Ba_t23.cell]; rfl
   have qBa1 : w6.cell? ⟨w1.heap.size, 1, none⟩ = some (.slice ada la.length ca) := by rw [Ba_t23.cell]; rfl
   have qBb0 : w6.cell? ⟨w1.heap.size + 1, 0, none⟩ = some (.int .i64 ab) := by rw [Bb_t23.cell]; rfl
   have qBb1 : w6.cell? ⟨w1.heap.size + 1, 1, none⟩ = some (.slice adb lb.length cb) := by rw [Bb_t23.cell]; rfl
   have qBx0 : w6.cell? ⟨w2.heap.size, 0, none⟩ = some (.int .i64 RZ) := by rw [Bx_t23.cell]; rfl
   have qBx1 : w6.cell? ⟨w2.heap.size, 1, none⟩ = some (.slice adx RL.length cx) := by rw [Bx_t23.cell]; rfl
   go_wp2
   go_ret
   exact ⟨rfl, hw_t23⟩
  ·
   have HSB : Hid (sameB RZ 0 RL [] = true) := Lib.hid (by rw [← HRR.out.1, ← HRR.out.2.1, e1, e2]; exact sameB_refl 0 [])
   clear e1 e2 HRR hc
   have qBa0 : w4.cell? ⟨w1.heap.size, 0, none⟩ = some (.int .i64 za) := by rw [Ba_t19.cell]; rfl
   have qBa1 : w4.cell? ⟨w1.heap.size, 1, none⟩ = some (.slice ada la.length ca) := by rw [Ba_t19.cell]; rfl
   have qBb0 : w4.cell? ⟨w1.heap.size + 1, 0, none⟩ = some (.int .i64 ab) := by rw [Bb_t19.cell]; rfl
   have qBb1 : w4.cell? ⟨w1.heap.size + 1, 1, none⟩ = some (.slice adb lb.length cb) := by rw [Bb_t19.cell]; rfl
   have qBx0 : w4.cell? ⟨w2.heap.size, 0, none⟩ = some (.int .i64 RZ) := by rw [Bx_t19.cell]; rfl
   have qBx1 : w4.cell? ⟨w2.heap.size, 1, none⟩ = some (.slice adx RL.length cx) := by rw [Bx_t19.cell]; rfl
   go_wp2_with fail
   clear qBa0 qBa1 qBb0 qBb1 qBx0 qBx1
   refine (specWorkOkO a_t19 b_t19 hfa hfb (by omega) (by omega)).mono ?_
   rintro e w5 ⟨rfl, hb5⟩
   rw [hv]
   have a_t21 := a_t19.next hb5
   clear a_t19
   have b_t21 := b_t19.next hb5
   clear b_t19
   have x_t21 := x_t19.next hb5
   clear x_t19
   have Ba_t21 := Ba_t19.next hb5
   clear Ba_t19
   have Bb_t21 := Bb_t19.next hb5
   clear Bb_t19
   have Bx_t21 := Bx_t19.next hb5
   clear Bx_t19
   have hw_t21 := below_next hw_t19 hb5
   have hs_t21 := hb5.size
   have qBa0 : w5.cell? ⟨w1.heap.size, 0, none⟩ = some (.int .i64 za) := by rw [Ba_t21.cell]; rfl
   have qBa1 : w5.cell? ⟨w1.heap.size, 1, none⟩ = some (.slice ada la.length ca) := by rw [Ba_t21.cell]; rfl
   have qBb0 : w5.cell? ⟨w1.heap.size + 1, 0, none⟩ = some (.int .i64 ab) := by rw [Bb_t21.cell]; rfl
   have qBb1 : w5.cell? ⟨w1.heap.size + 1, 1, none⟩ = some (.slice adb lb.length cb) := by rw [Bb_t21.cell]; rfl
   have qBx0 : w5.cell? ⟨w2.heap.size, 0, none⟩ = some (.int .i64 RZ) := by rw [Bx_t21.cell]; rfl
   have qBx1 : w5.cell? ⟨w2.heap.size, 1, none⟩ = some (.slice adx RL.length cx) := by rw [Bx_t21.cell]; rfl
   go_wp2_with fail
   clear qBa0 qBa1 qBb0 qBb1 qBx0 qBx1
   refine (specWorkOkO a_t21 b_t21 hfa hfb (by omega) (by omega)).mono ?_
   rintro e w6 ⟨rfl, hb6⟩
   rw [hv]
   have a_t23 := a_t21.next hb6
   clear a_t21
   have b_t23 := b_t21.next hb6
   clear b_t21
   have x_t23 := x_t21.next hb6
   clear x_t21
   have Ba_t23 := Ba_t21.next hb6
   clear Ba_t21
   have Bb_t23 := Bb_t21.next hb6
   clear Bb_t21
   have Bx_t23 := Bx_t21.next hb6
   clear Bx_t21
   have hw_t23 := below_next hw_t21 hb6
   have hs_t23 := hb6.size
   have qBa0 : w6.cell? ⟨w1.heap.size, 0, none⟩ = some (.int .i64 za) := by rw [Ba_t23.cell]; rfl
   have qBa1 : w6.cell? ⟨w1.heap.size, 1, none⟩ = some (.slice ada la.length ca) := by rw [Ba_t23.cell]; rfl
   have qBb0 : w6.cell? ⟨w1.heap.size + 1, 0, none⟩ = some (.int .i64 ab) := by rw [Bb_t23.cell]; rfl
   have qBb1 : w6.cell? ⟨w1.heap.size + 1, 1, none⟩ = some (.slice adb lb.length cb) := by rw [Bb_t23.cell]; rfl
   have qBx0 : w6.cell? ⟨w2.heap.size, 0, none⟩ = some (.int .i64 RZ) := by rw [Bx_t23.cell]; rfl
   have qBx1 : w6.cell? ⟨w2.heap.size, 1, none⟩ = some (.slice adx RL.length cx) := by rw [Bx_t23.cell]; rfl
   go_wp2_with fail
   clear qBa0 qBa1 qBb0 qBb1 qBx0 qBx1
   refine (implSameO x_t23 (OwnG.nil (α := V) _ 0) (by omega) (by simp)).mono ?_
   rintro e w7 ⟨rfl, hb7⟩
   rw [HSB.out]
   have a_t25 := a_t23.next hb7
   clear a_t23
   have b_t25 := b_t23.next hb7
   clear b_t23
   have x_t25 := x_t23.next hb7
   clear x_t23
   have Ba_t25 := Ba_t23.next hb7
   clear Ba_t23
   have Bb_t25 := Bb_t23.next hb7
   clear Bb_t23
   have Bx_t25 := Bx_t23.next hb7
   clear Bx_t23
   have hw_t25 := below_next hw_t23 hb7
   have hs_t25 := hb7.size
   have qBa0 : w7.cell? ⟨w1.heap.size, 0, none⟩ = some (.int .i64 za) := by rw [Ba_t25.cell]; rfl
   have qBa1 : w7.cell? ⟨w1.heap.size, 1, none⟩ = some (.slice ada la.length ca) := by rw [Ba_t25.cell]; rfl
   have qBb0 : w7.cell? ⟨w1.heap.size + 1, 0, none⟩ = some (.int .i64 ab) := by rw [Bb_t25.cell]; rfl
   have qBb1 : w7.cell? ⟨w1.heap.size + 1, 1, none⟩ = some (.slice adb lb.length cb) := by rw [Bb_t25.cell]; rfl
   have qBx0 : w7.cell? ⟨w2.heap.size, 0, none⟩ = some (.int .i64 RZ) := by rw [Bx_t25.cell]; rfl
   have qBx1 : w7.cell? ⟨w2.heap.size, 1, none⟩ = some (.slice adx RL.length cx) := by rw [Bx_t25.cell]; rfl
   go_wp2
   go_ret
   exact ⟨rfl, hw_t25⟩

set_option maxRecDepth 100000 in
theorem lifted (os : Os) (started : os.Started) (H : Type) (enc : TypeId × Value → H) :
  ReturnsInHanded {} Tryz.checked os 8 .any (Rows.fnWorkEndSpec.pre6 enc Tryz.prog Tryz.f8 Rows.fnWorkEndRow.domain false) (Rows.fnWorkEndSpec.post enc Tryz.prog Tryz.f8 false true false false) := by
 refine returnsInHanded_of_change (C := Tryz.checked) Whole.own started (by kernel_rfl) Tryz.func8
  (ChangeSpec.witness6 (enc := enc) (C := Tryz.checked) false ⟨#[], #[.slice none 0 0], []⟩ 8 (by kernel_rfl) (by kernel_rfl) (by kernel_rfl) (by kernel_rfl)) ?_
 intro W base args ds gs before hval0 hW hcnd _
 have hval : ∀ (j : Nat) t v, Tryz.f8.params[j]? = some t → args[j]? = some v → Value.okWide Tryz.prog W .any base t v := hval0
 have hW' := hW
 obtain ⟨p, q, hA0, hV, rfl, hfz, hnd⟩ := hW
 have hA : DataW.TrodAll enc Tryz.prog W 0 (fun _ => true) true Tryz.f8.params.toList args.toList ds p := hA0
 rw [Tryz.params8] at hA hval
 obtain ⟨v0, vs0, d0, ds0, p0, q0, hargs, rfl, rfl, h0, r0⟩ := trodAll_cons hA
 obtain ⟨rfl, rfl, rfl⟩ := trodAll_nil r0
 obtain rfl : args = #[v0] := by cases args; simp_all
 obtain ⟨rfl, rfl⟩ := trodVars_none hV
 have k0 := h0
 have lt0 : ∀ x ∈ p0, x.block < W.heap.size := by obtain ⟨m, hm⟩ := k0; exact DataW.trod_lt m _ _ _ hm
 obtain ⟨A0, n0, c0, rfl, hc0, hm0, hr0⟩ := openBytes (hval 0 57 v0 rfl rfl) h0
 clear hA0 hval0
 refine (walk A0 n0 c0 W hc0 hm0 hr0).mono fun e W' ⟨he, bel⟩ => ?_
 subst he
 exact ⟨_, rfl, _, _, _, [], _, [], hW', trodAll_mk1 (shut_bool Tryz.underlying4 _), (trodAll_cons_mk (Below.trod Whole.laidOut (by kernel_rfl) (of_decide_eq_true (by kernel_rfl)) k0 bel lt0) trodAll_mk0), rfl, bel.frame _, fun h => by cases h⟩

theorem named : Tryz.prog.funcNamed Rows.fnWorkEndRow.func = some 8 := by kernel_rfl
theorem closed : Whole.lawFacts Tryz.prog 8 Tryz.f8 Rows.fnWorkEndSpec Rows.fnWorkEndRow = true := by kernel_rfl
theorem inst : Tryz.f8.isInstance Tryz.prog Rows.fnWorkEndRow.origin Rows.fnWorkEndRow.targs := of_decide_eq_true (by kernel_rfl)
theorem wrap : Tryz.f8.isWrapper Tryz.prog Rows.fnWorkEndRow.wrapper Rows.fnWorkEndRow.mainSum := by
 unfold Func.isWrapper; first | (rw [if_pos (by decide +kernel)]; kernel_rfl) | (rw [if_neg (by decide +kernel)]; exact ⟨rfl, rfl⟩)
theorem over : Rows.fnWorkEndRow.holds Tryz.pinned (OpenSpec.ofChange Rows.fnWorkEndSpec) :=
 OpenClaim.holds_of_wide 8 Tryz.f8 rfl rfl rfl rfl rfl rfl rfl ⟨rfl, rfl, rfl, rfl, rfl⟩ rfl rfl rfl rfl rfl named Tryz.func8 (Whole.facts_of closed)
  inst wrap (fun os started H enc _ => lifted os started H enc)

theorem proved : Rows.FnWorkEndSaid := over
#print axioms proved
end Go.Proofs.YtbeklnhngjmpiaaGreat.fnWorkEnd
