/- The law FnWorkLate: for every code that is drawn from, behind a commit that is fine one who writes a key of it at the earlier time is late, as in the model: for every input the call returns true, and the argument reads afterwards as before. No conditions. -/
import Derived.Test.YtbeklnhngjmpiaaGreatRows
import Derived.Test.YtbeklnhngjmpiaaGreatWhole
import Derived.Test.YtbeklnhngjmpiaaGreatA1
import Derived.Test.YtbeklnhngjmpiaaGreatA4
import Derived.Test.YtbeklnhngjmpiaaGreatDw3
import Derived.Test.YtbeklnhngjmpiaaGreatW3r
import Derived.Test.YtbeklnhngjmpiaaGreatX3h
import Derived.Deep.DeepCutAuto
import Derived.WalkKit
import Derived.ProofKit
import Derived.OpenShut
import Derived.ShutString
import Derived.ChangeOld
import Derived.Below
namespace Go.Proofs.YtbeklnhngjmpiaaGreat.fnWorkLate
open Go.ChangeShapes Go.WideShapes Go.ChangeAt Go.RowKit
open Go.ChangeMaps (open_string shut_string)
set_option linter.unusedVariables false

set_option maxRecDepth 100000 in
set_option maxHeartbeats 1000000 in
theorem walk (A0 : Option Addr) (n0 c0 : Nat) (w : World) (hc0 : n0 ≤ c0) (hm0 : c0 ≤ maxLen) (hr0 : RdB w w.heap.size A0 n0) :
  Calls Tryz.prog 9 #[.slice A0 n0 c0] w fun e w' => e = .returned (.bool true) ∧ Below w.heap.size w w' := by
 by_cases hn_n0 : (1048576 : Int) < (n0 : Int)
 ·
  go_enter Tryz.func9, Tryz.ntmps9
  go_wp2
  go_ret
  exact ⟨rfl, Below.refl _ _⟩
 go_enter Tryz.func9, Tryz.ntmps9
 go_wp2_with fail
 refine (drawWorkEnd A0 n0 c0 w hc0 hm0 hr0).mono ?_
 rintro e w1 ⟨za, Va, la, ab, Vb, lb, rfl, a_n, hfa, hza, hla, b_n, hfb, hab, hlb, hb1⟩
 obtain ⟨ada, ca, rfl, ry1_a, ry2_a, ry3_a⟩ := a_n.read
 clear ry1_a ry2_a ry3_a
 obtain ⟨adb, cb, rfl, ry1_b, ry2_b, ry3_b⟩ := b_n.read
 clear ry1_b ry2_b ry3_b
 have hw_t1 := hb1
 have hs_t1 := hb1.size
 have hb_t3 := below_alloc (Below.refl _ w1) (.cells #[.int .i64 za, .slice ada la.length ca] 34)
 have Ba_t3 := blkA w1 #[.int .i64 za, .slice ada la.length ca] 34
 have hz_t3 : (w1.alloc (.cells #[.int .i64 za, .slice ada la.length ca] 34)).heap.size = w1.heap.size + 1 := World.size_alloc _ _
 have a_t4 := a_n.next hb_t3
 clear a_n
 have b_t4 := b_n.next hb_t3
 clear b_n
 have hw_t4 := below_next hw_t1 hb_t3
 have hs_t4 := hb_t3.size
 have hb_t6 := below_alloc (Below.refl _ (w1.alloc (.cells #[.int .i64 za, .slice ada la.length ca] 34))) (.cells #[.int .i64 ab, .slice adb lb.length cb] 38)
 have Bb_t6 := blkA (w1.alloc (.cells #[.int .i64 za, .slice ada la.length ca] 34)) #[.int .i64 ab, .slice adb lb.length cb] 38
 simp only [World.size_alloc] at Bb_t6
 have hz_t6 : ((w1.alloc (.cells #[.int .i64 za, .slice ada la.length ca] 34)).alloc (.cells #[.int .i64 ab, .slice adb lb.length cb] 38)).heap.size = (w1.alloc (.cells #[.int .i64 za, .slice ada la.length ca] 34)).heap.size + 1 := World.size_alloc _ _
 have a_t7 := a_t4.next hb_t6
 clear a_t4
 have b_t7 := b_t4.next hb_t6
 clear b_t4
 have Ba_t7 := Ba_t3.next hb_t6
 clear Ba_t3
 have hw_t7 := below_next hw_t4 hb_t6
 have hs_t7 := hb_t6.size
 have hel := endL_length za la ab lb (by omega)
 obtain ⟨RZ, RL, RC, HRR⟩ : ∃ RZ RL RC, Hid (endZ za la ab lb = RZ ∧ endL za la ab lb = RL ∧ endC za la ab lb = RC) := ⟨_, _, _, Lib.hid ⟨rfl, rfl, rfl⟩⟩
 rw [HRR.out.2.1] at hel
 have qBa0 : ((w1.alloc (.cells #[.int .i64 za, .slice ada la.length ca] 34)).alloc (.cells #[.int .i64 ab, .slice adb lb.length cb] 38)).cell? ⟨w1.heap.size, 0, none⟩ = some (.int .i64 za) := by rw [Ba_t7.cell]; rfl
 have qBa1 : ((w1.alloc (.cells #[.int .i64 za, .slice ada la.length ca] 34)).alloc (.cells #[.int .i64 ab, .slice adb lb.length cb] 38)).cell? ⟨w1.heap.size, 1, none⟩ = some (.slice ada la.length ca) := by rw [Ba_t7.cell]; rfl
 have qBb0 : ((w1.alloc (.cells #[.int .i64 za, .slice ada la.length ca] 34)).alloc (.cells #[.int .i64 ab, .slice adb lb.length cb] 38)).cell? ⟨w1.heap.size + 1, 0, none⟩ = some (.int .i64 ab) := by rw [Bb_t6.cell]; rfl
 have qBb1 : ((w1.alloc (.cells #[.int .i64 za, .slice ada la.length ca] 34)).alloc (.cells #[.int .i64 ab, .slice adb lb.length cb] 38)).cell? ⟨w1.heap.size + 1, 1, none⟩ = some (.slice adb lb.length cb) := by rw [Bb_t6.cell]; rfl
 go_wp2_with fail
 clear qBa0 qBa1 qBb0 qBb1
 refine (implWorkEndO a_t7 b_t7 hfa hfb (by omega) (by omega)).mono ?_
 rw [HRR.out.1, HRR.out.2.1, HRR.out.2.2]
 rintro e w2 ⟨Vx, rfl, x_n, hb2⟩
 obtain ⟨adx, cx, rfl, ry1_x, ry2_x, ry3_x⟩ := x_n.read
 clear ry1_x ry2_x ry3_x
 have a_t9 := a_t7.next hb2
 clear a_t7
 have b_t9 := b_t7.next hb2
 clear b_t7
 have Ba_t9 := Ba_t7.next hb2
 clear Ba_t7
 have Bb_t9 := Bb_t6.next hb2
 clear Bb_t6
 have hw_t9 := below_next hw_t7 hb2
 have hs_t9 := hb2.size
 have hb_t11 := below_alloc (Below.refl _ w2) (.cells #[.int .i64 RZ, .slice adx RL.length cx] 34)
 have Bx_t11 := blkA w2 #[.int .i64 RZ, .slice adx RL.length cx] 34
 have hz_t11 : (w2.alloc (.cells #[.int .i64 RZ, .slice adx RL.length cx] 34)).heap.size = w2.heap.size + 1 := World.size_alloc _ _
 have a_t12 := a_t9.next hb_t11
 clear a_t9
 have b_t12 := b_t9.next hb_t11
 clear b_t9
 have x_t12 := x_n.next hb_t11
 clear x_n
 have Ba_t12 := Ba_t9.next hb_t11
 clear Ba_t9
 have Bb_t12 := Bb_t9.next hb_t11
 clear Bb_t9
 have hw_t12 := below_next hw_t9 hb_t11
 have hs_t12 := hb_t11.size
 have qBa0 : (w2.alloc (.cells #[.int .i64 RZ, .slice adx RL.length cx] 34)).cell? ⟨w1.heap.size, 0, none⟩ = some (.int .i64 za) := by rw [Ba_t12.cell]; rfl
 have qBa1 : (w2.alloc (.cells #[.int .i64 RZ, .slice adx RL.length cx] 34)).cell? ⟨w1.heap.size, 1, none⟩ = some (.slice ada la.length ca) := by rw [Ba_t12.cell]; rfl
 have qBb0 : (w2.alloc (.cells #[.int .i64 RZ, .slice adx RL.length cx] 34)).cell? ⟨w1.heap.size + 1, 0, none⟩ = some (.int .i64 ab) := by rw [Bb_t12.cell]; rfl
 have qBb1 : (w2.alloc (.cells #[.int .i64 RZ, .slice adx RL.length cx] 34)).cell? ⟨w1.heap.size + 1, 1, none⟩ = some (.slice adb lb.length cb) := by rw [Bb_t12.cell]; rfl
 have qBx0 : (w2.alloc (.cells #[.int .i64 RZ, .slice adx RL.length cx] 34)).cell? ⟨w2.heap.size, 0, none⟩ = some (.int .i64 RZ) := by rw [Bx_t11.cell]; rfl
 have qBx1 : (w2.alloc (.cells #[.int .i64 RZ, .slice adx RL.length cx] 34)).cell? ⟨w2.heap.size, 1, none⟩ = some (.slice adx RL.length cx) := by rw [Bx_t11.cell]; rfl
 go_wp2_with fail
 clear qBa0 qBa1 qBb0 qBb1 qBx0 qBx1
 refine (specWorkEndO a_t12 b_t12 hfa hfb (by omega) (by omega)).mono ?_
 rw [HRR.out.1, HRR.out.2.1, HRR.out.2.2]
 rintro e w3 ⟨Vy, rfl, y_n, hb3⟩
 obtain ⟨ady, cy, rfl, ry1_y, ry2_y, ry3_y⟩ := y_n.read
 clear ry1_y ry2_y ry3_y
 have a_t14 := a_t12.next hb3
 clear a_t12
 have b_t14 := b_t12.next hb3
 clear b_t12
 have x_t14 := x_t12.next hb3
 clear x_t12
 have Ba_t14 := Ba_t12.next hb3
 clear Ba_t12
 have Bb_t14 := Bb_t12.next hb3
 clear Bb_t12
 have Bx_t14 := Bx_t11.next hb3
 clear Bx_t11
 have hw_t14 := below_next hw_t12 hb3
 have hs_t14 := hb3.size
 have hb_t16 := below_alloc (Below.refl _ w3) (.cells #[.int .i64 RZ, .slice ady RL.length cy] 34)
 have By_t16 := blkA w3 #[.int .i64 RZ, .slice ady RL.length cy] 34
 have hz_t16 : (w3.alloc (.cells #[.int .i64 RZ, .slice ady RL.length cy] 34)).heap.size = w3.heap.size + 1 := World.size_alloc _ _
 have a_t17 := a_t14.next hb_t16
 clear a_t14
 have b_t17 := b_t14.next hb_t16
 clear b_t14
 have x_t17 := x_t14.next hb_t16
 clear x_t14
 have y_t17 := y_n.next hb_t16
 clear y_n
 have Ba_t17 := Ba_t14.next hb_t16
 clear Ba_t14
 have Bb_t17 := Bb_t14.next hb_t16
 clear Bb_t14
 have Bx_t17 := Bx_t14.next hb_t16
 clear Bx_t14
 have hw_t17 := below_next hw_t14 hb_t16
 have hs_t17 := hb_t16.size
 clear y_t17
 have hrc : (RC != RC) = false := by simp
 have hrd : (RC == RC) = true := by simp
 by_cases hc : RC = 0
 ·
  subst hc
  have HC0 : Hid (endC za la ab lb = 0) := Lib.hid HRR.out.2.2
  have HE1 : Hid (endZ za la ab lb = RZ) := Lib.hid HRR.out.1
  have HE2 : Hid (endL za la ab lb = RL) := Lib.hid HRR.out.2.1
  have hfR : FitVs RL := by rw [← HE2.out]; exact fit_end HC0.out hfa hfb
  have hRl := fine_len HC0.out
  rw [HE1.out, HE2.out] at hRl
  obtain ⟨hRl, hRz0, hRz1⟩ := hRl
  clear HRR
  clear hrc hrd
  by_cases hne : lb.length = 0
  ·
   have hl0 : ((lb.length : Int) == 0) = true := by rw [hne]; rfl
   have qBa0 : (w3.alloc (.cells #[.int .i64 RZ, .slice ady RL.length cy] 34)).cell? ⟨w1.heap.size, 0, none⟩ = some (.int .i64 za) := by rw [Ba_t17.cell]; rfl
   have qBa1 : (w3.alloc (.cells #[.int .i64 RZ, .slice ady RL.length cy] 34)).cell? ⟨w1.heap.size, 1, none⟩ = some (.slice ada la.length ca) := by rw [Ba_t17.cell]; rfl
   have qBb0 : (w3.alloc (.cells #[.int .i64 RZ, .slice ady RL.length cy] 34)).cell? ⟨w1.heap.size + 1, 0, none⟩ = some (.int .i64 ab) := by rw [Bb_t17.cell]; rfl
   have qBb1 : (w3.alloc (.cells #[.int .i64 RZ, .slice ady RL.length cy] 34)).cell? ⟨w1.heap.size + 1, 1, none⟩ = some (.slice adb lb.length cb) := by rw [Bb_t17.cell]; rfl
   have qBx0 : (w3.alloc (.cells #[.int .i64 RZ, .slice ady RL.length cy] 34)).cell? ⟨w2.heap.size, 0, none⟩ = some (.int .i64 RZ) := by rw [Bx_t17.cell]; rfl
   have qBx1 : (w3.alloc (.cells #[.int .i64 RZ, .slice ady RL.length cy] 34)).cell? ⟨w2.heap.size, 1, none⟩ = some (.slice adx RL.length cx) := by rw [Bx_t17.cell]; rfl
   go_wp2
   go_ret
   exact ⟨rfl, hw_t17⟩
  ·
   have hl0 : ((lb.length : Int) == 0) = false := by rw [beq_eq_false_iff_ne]; omega
   have HNE : Hid (lb ≠ []) := Lib.hid (fun e => hne (by rw [e]; rfl))
   clear hne
   have qBa0 : (w3.alloc (.cells #[.int .i64 RZ, .slice ady RL.length cy] 34)).cell? ⟨w1.heap.size, 0, none⟩ = some (.int .i64 za) := by rw [Ba_t17.cell]; rfl
   have qBa1 : (w3.alloc (.cells #[.int .i64 RZ, .slice ady RL.length cy] 34)).cell? ⟨w1.heap.size, 1, none⟩ = some (.slice ada la.length ca) := by rw [Ba_t17.cell]; rfl
   have qBb0 : (w3.alloc (.cells #[.int .i64 RZ, .slice ady RL.length cy] 34)).cell? ⟨w1.heap.size + 1, 0, none⟩ = some (.int .i64 ab) := by rw [Bb_t17.cell]; rfl
   have qBb1 : (w3.alloc (.cells #[.int .i64 RZ, .slice ady RL.length cy] 34)).cell? ⟨w1.heap.size + 1, 1, none⟩ = some (.slice adb lb.length cb) := by rw [Bb_t17.cell]; rfl
   have qBx0 : (w3.alloc (.cells #[.int .i64 RZ, .slice ady RL.length cy] 34)).cell? ⟨w2.heap.size, 0, none⟩ = some (.int .i64 RZ) := by rw [Bx_t17.cell]; rfl
   have qBx1 : (w3.alloc (.cells #[.int .i64 RZ, .slice ady RL.length cy] 34)).cell? ⟨w2.heap.size, 1, none⟩ = some (.slice adx RL.length cx) := by rw [Bx_t17.cell]; rfl
   go_wp2
   clear qBa0 qBa1 qBb0 qBb1 qBx0 qBx1
   go_loopw [9] (fun i W => ∃ k : Nat, k ≤ lb.length ∧ i = .int .i64 k ∧ Below (w3.alloc (.cells #[.int .i64 RZ, .slice ady RL.length cy] 34)).heap.size (w3.alloc (.cells #[.int .i64 RZ, .slice ady RL.length cy] 34)) W) (fun i _ => lb.length - (intOf i).toNat)
   case atStart => exact ⟨0, Nat.zero_le _, rfl, Below.refl _ _⟩
   case round =>
    obtain ⟨k, hk, rfl, hbl⟩ := hrel
    have lq0 := hbl
    have a_t19 := a_t17.next hbl
    clear a_t17
    have b_t19 := b_t17.next hbl
    clear b_t17
    have x_t19 := x_t17.next hbl
    clear x_t17
    have Ba_t19 := Ba_t17.next hbl
    clear Ba_t17
    have Bb_t19 := Bb_t17.next hbl
    clear Bb_t17
    have Bx_t19 := Bx_t17.next hbl
    clear Bx_t17
    have hw_t19 := below_next hw_t17 hbl
    have hs_t19 := hbl.size
    clear hl0
    by_cases hlt : k < lb.length
    ·
     obtain ⟨ebE, eoE, rfl, hqE, _⟩ := (b_t19.rd'.2.2.2).atX hlt
     clear hqE
     have hkI := lenI _ _ hlt
     have qBa0 : wr.cell? ⟨w1.heap.size, 0, none⟩ = some (.int .i64 za) := by rw [Ba_t19.cell]; rfl
     have qBa1 : wr.cell? ⟨w1.heap.size, 1, none⟩ = some (.slice ada la.length ca) := by rw [Ba_t19.cell]; rfl
     have qBb0 : wr.cell? ⟨w1.heap.size + 1, 0, none⟩ = some (.int .i64 ab) := by rw [Bb_t19.cell]; rfl
     have qBb1 : wr.cell? ⟨w1.heap.size + 1, 1, none⟩ = some (.slice (some ⟨ebE, eoE, none⟩) lb.length cb) := by rw [Bb_t19.cell]; rfl
     have qBx0 : wr.cell? ⟨w2.heap.size, 0, none⟩ = some (.int .i64 RZ) := by rw [Bx_t19.cell]; rfl
     have qBx1 : wr.cell? ⟨w2.heap.size, 1, none⟩ = some (.slice adx RL.length cx) := by rw [Bx_t19.cell]; rfl
     have qE0 : wr.cell? ⟨ebE, eoE + k * 3, none⟩ = some (.string lb[k].k) := ((b_t19.rd'.2.2.2).fixX rfl hlt).1
     have qE1 : wr.cell? ⟨ebE, eoE + k * 3 + 1, none⟩ = some (.int .i64 lb[k].n) := ((b_t19.rd'.2.2.2).fixX rfl hlt).2.1
     have qE2 : wr.cell? ⟨ebE, eoE + k * 3 + 2, none⟩ = some (.bool lb[k].g) := ((b_t19.rd'.2.2.2).fixX rfl hlt).2.2
     go_wp2
     clear qBa0 qBa1 qBb0 qBb1 qBx0 qBx1
     clear qE0 qE1 qE2
     go_cut [10] (fun p W => ∃ (go bs : Nat), p = .pointer (some ⟨go, 0, none⟩) ∧ Blk W go 38 #[.int .i64 za, .slice (some ⟨bs, 0, none⟩) 1 1] ∧ OwnG (α := X) W wr.heap.size (.slice (some ⟨bs, 0, none⟩) 1 1) [(⟨lb[k].k, 7, false⟩ : X)] ∧ wr.heap.size ≤ go ∧ Below wr.heap.size wr W)
     case first =>
      have hb_t21 : Below wr.heap.size wr wr.drew := (Below.refl _ _).drew
      have a_t22 := a_t19.next hb_t21
      clear a_t19
      have b_t22 := b_t19.next hb_t21
      clear b_t19
      have x_t22 := x_t19.next hb_t21
      clear x_t19
      have Ba_t22 := Ba_t19.next hb_t21
      clear Ba_t19
      have Bb_t22 := Bb_t19.next hb_t21
      clear Bb_t19
      have Bx_t22 := Bx_t19.next hb_t21
      clear Bx_t19
      have hw_t22 := below_next hw_t19 hb_t21
      have hs_t22 := hb_t21.size
      have lw0_t23 := below_next lq0 hb_t21
      have hc_t21 := hb_t21
      clear hb_t21
      refine wp_region_held_drew (S := (fun W => W.cell? ⟨w1.heap.size, 0, none⟩ = some (.int .i64 za) ∧ W.cell? ⟨w1.heap.size, 1, none⟩ = some (.slice ada la.length ca) ∧ W.cell? ⟨w1.heap.size + 1, 0, none⟩ = some (.int .i64 ab) ∧ W.cell? ⟨w1.heap.size + 1, 1, none⟩ = some (.slice (some ⟨ebE, eoE, none⟩) lb.length cb) ∧ W.cell? ⟨w2.heap.size, 0, none⟩ = some (.int .i64 RZ) ∧ W.cell? ⟨w2.heap.size, 1, none⟩ = some (.slice adx RL.length cx) ∧ W.cell? ⟨ebE, eoE + k * 3, none⟩ = some (.string lb[k].k) ∧ W.cell? ⟨ebE, eoE + k * 3 + 1, none⟩ = some (.int .i64 lb[k].n) ∧ W.cell? ⟨ebE, eoE + k * 3 + 2, none⟩ = some (.bool lb[k].g))) (by kernel_rfl) ?_ (fun hHeld => ?_)
      focus ((try dsimp only); (exact ⟨by rw [Ba_t22.cell]; rfl, by rw [Ba_t22.cell]; rfl, by rw [Bb_t22.cell]; rfl, by rw [Bb_t22.cell]; rfl, by rw [Bx_t22.cell]; rfl, by rw [Bx_t22.cell]; rfl, ((b_t22.rd'.2.2.2).fixX rfl hlt).1, ((b_t22.rd'.2.2.2).fixX rfl hlt).2.1, ((b_t22.rd'.2.2.2).fixX rfl hlt).2.2⟩))
      obtain ⟨wd, HWD⟩ : ∃ wd, Hid (wr.drew = wd) := ⟨_, Lib.hid rfl⟩
      rw [HWD.out] at hHeld hc_t21 Ba_t22 Bb_t22 Bx_t22 a_t22 b_t22 x_t22
      rw [HWD.out]
      have hsd := hc_t21.size
      refine tk 0 ?_
      refine tk 1 ?_
      refine tk 2 ?_
      refine tk 3 ?_
      refine tk 4 ?_
      refine tk 5 ?_
      refine tk 6 ?_
      refine tk 7 ?_
      refine tk 8 ?_
      refine wpAnyH_ready (rs := [9, 11]) (by kernel_rfl) (by simp) (AllReadyH.cons (by (simp only [ga, gb, gc]; rfl)) (fun K hK => ?_) (AllReadyH.cons (by (simp only [ga, gb, gc]; rfl)) (fun K hK => ?_) AllReadyH.nil))
      ·
       go_simp
       have hA1 : Below wd.heap.size wd (wd.alloc (.cells #[.string lb[k].k, .int .i64 7, .bool false] 52)) := below_alloc (Below.refl _ _) _
       refine hK.out _ _ ?_ (fun hHeld => ?_)
       focus ((try dsimp only); (exact ⟨by rw [(Ba_t22.next hA1).cell]; rfl, by rw [(Ba_t22.next hA1).cell]; rfl, by rw [(Bb_t22.next hA1).cell]; rfl, by rw [(Bb_t22.next hA1).cell]; rfl, by rw [(Bx_t22.next hA1).cell]; rfl, by rw [(Bx_t22.next hA1).cell]; rfl, (((b_t22.next hA1).rd'.2.2.2).fixX rfl hlt).1, (((b_t22.next hA1).rd'.2.2.2).fixX rfl hlt).2.1, (((b_t22.next hA1).rd'.2.2.2).fixX rfl hlt).2.2⟩))
       clear hK K
       try simp only [Act.put, pa, pb, pc]
       refine tk 10 ?_
       have hA2 : Below wd.heap.size wd ((wd.alloc (.cells #[.string lb[k].k, .int .i64 7, .bool false] 52)).alloc (.cells #[.int .i64 0, .slice none 0 0] 38)) := below_alloc hA1 _
       have hZ : Blk ((wd.alloc (.cells #[.string lb[k].k, .int .i64 7, .bool false] 52)).alloc (.cells #[.int .i64 0, .slice none 0 0] 38)) (wd.heap.size + 1) 38 #[.int .i64 0, .slice none 0 0] := blkAt _ _ (World.size_alloc _ _)
       refine rd1 11 (fun K hK => ?_)
       go_simp
       refine hK.out _ _ ?_ (fun hHeld => ?_)
       focus ((try dsimp only); (exact ⟨by rw [(Ba_t22.next hA2).cell]; rfl, by rw [(Ba_t22.next hA2).cell]; rfl, by rw [(Bb_t22.next hA2).cell]; rfl, by rw [(Bb_t22.next hA2).cell]; rfl, by rw [(Bx_t22.next hA2).cell]; rfl, by rw [(Bx_t22.next hA2).cell]; rfl, (((b_t22.next hA2).rd'.2.2.2).fixX rfl hlt).1, (((b_t22.next hA2).rd'.2.2.2).fixX rfl hlt).2.1, (((b_t22.next hA2).rd'.2.2.2).fixX rfl hlt).2.2⟩))
       clear hK K
       try simp only [Act.put, pa, pb, pc]
       have d0 : ((wd.alloc (.cells #[.string lb[k].k, .int .i64 7, .bool false] 52)).alloc (.cells #[.int .i64 0, .slice none 0 0] 38)).cell? ⟨wd.heap.size + 1, 0, none⟩ = some (.int .i64 0) := (by rw [hZ.cell]; rfl)
       have d1 : ((wd.alloc (.cells #[.string lb[k].k, .int .i64 7, .bool false] 52)).alloc (.cells #[.int .i64 0, .slice none 0 0] 38)).cell? ⟨wd.heap.size + 1, 1, none⟩ = some (.slice none 0 0) := (by rw [hZ.cell]; rfl)
       have f0 := hZ.free 0
       have f1 := hZ.free 1
       have hA3 : Below wd.heap.size wd ((wd.alloc (.cells #[.string lb[k].k, .int .i64 7, .bool false] 52)).alloc (.cells #[.int .i64 za, .slice (some ⟨wd.heap.size, 0, none⟩) 1 1] 38)) := below_alloc hA1 _
       refine rd1 12 (fun K hK => ?_)
       go_simp
       refine hK.out _ _ ?_ (fun hHeld => ?_)
       focus ((try dsimp only); (exact ⟨by rw [(Ba_t22.next hA3).cell]; rfl, by rw [(Ba_t22.next hA3).cell]; rfl, by rw [(Bb_t22.next hA3).cell]; rfl, by rw [(Bb_t22.next hA3).cell]; rfl, by rw [(Bx_t22.next hA3).cell]; rfl, by rw [(Bx_t22.next hA3).cell]; rfl, (((b_t22.next hA3).rd'.2.2.2).fixX rfl hlt).1, (((b_t22.next hA3).rd'.2.2.2).fixX rfl hlt).2.1, (((b_t22.next hA3).rd'.2.2.2).fixX rfl hlt).2.2⟩))
       clear hK K
       try simp only [Act.put, pa, pb, pc]
       clear d0 d1 f0 f1
       refine wpAnyH_done (by kernel_rfl) ?_ _
       go_wp2
       go_meet
       case rel => exact ⟨wd.heap.size + 1, wd.heap.size, rfl, blkAt _ _ (World.size_alloc _ _), OwnG.mk (α := X) (l := [(⟨lb[k].k, 7, false⟩ : X)]) hsd ((blkA wd _ _).alloc _) (by simp) (by decide) rfl rfl, by omega, below_next hc_t21 hA3⟩
      ·
       go_simp
       have hB1 : Below wd.heap.size wd (wd.alloc (.cells #[.int .i64 0, .slice none 0 0] 38)) := below_alloc (Below.refl _ _) _
       refine hK.out _ _ ?_ (fun hHeld => ?_)
       focus ((try dsimp only); (exact ⟨by rw [(Ba_t22.next hB1).cell]; rfl, by rw [(Ba_t22.next hB1).cell]; rfl, by rw [(Bb_t22.next hB1).cell]; rfl, by rw [(Bb_t22.next hB1).cell]; rfl, by rw [(Bx_t22.next hB1).cell]; rfl, by rw [(Bx_t22.next hB1).cell]; rfl, (((b_t22.next hB1).rd'.2.2.2).fixX rfl hlt).1, (((b_t22.next hB1).rd'.2.2.2).fixX rfl hlt).2.1, (((b_t22.next hB1).rd'.2.2.2).fixX rfl hlt).2.2⟩))
       clear hK K
       try simp only [Act.put, pa, pb, pc]
       have hB2 : Below wd.heap.size wd ((wd.alloc (.cells #[.int .i64 0, .slice none 0 0] 38)).alloc (.cells #[.string lb[k].k, .int .i64 7, .bool false] 52)) := below_alloc hB1 _
       refine rd1 9 (fun K hK => ?_)
       go_simp
       refine hK.out _ _ ?_ (fun hHeld => ?_)
       focus ((try dsimp only); (exact ⟨by rw [(Ba_t22.next hB2).cell]; rfl, by rw [(Ba_t22.next hB2).cell]; rfl, by rw [(Bb_t22.next hB2).cell]; rfl, by rw [(Bb_t22.next hB2).cell]; rfl, by rw [(Bx_t22.next hB2).cell]; rfl, by rw [(Bx_t22.next hB2).cell]; rfl, (((b_t22.next hB2).rd'.2.2.2).fixX rfl hlt).1, (((b_t22.next hB2).rd'.2.2.2).fixX rfl hlt).2.1, (((b_t22.next hB2).rd'.2.2.2).fixX rfl hlt).2.2⟩))
       clear hK K
       try simp only [Act.put, pa, pb, pc]
       refine tk 10 ?_
       have hZ : Blk ((wd.alloc (.cells #[.int .i64 0, .slice none 0 0] 38)).alloc (.cells #[.string lb[k].k, .int .i64 7, .bool false] 52)) wd.heap.size 38 #[.int .i64 0, .slice none 0 0] := (blkA wd _ _).alloc _
       have hS : Blk ((wd.alloc (.cells #[.int .i64 0, .slice none 0 0] 38)).alloc (.cells #[.string lb[k].k, .int .i64 7, .bool false] 52)) (wd.heap.size + 1) 52 #[.string lb[k].k, .int .i64 7, .bool false] := blkAt _ _ (World.size_alloc _ _)
       have d0 : ((wd.alloc (.cells #[.int .i64 0, .slice none 0 0] 38)).alloc (.cells #[.string lb[k].k, .int .i64 7, .bool false] 52)).cell? ⟨wd.heap.size, 0, none⟩ = some (.int .i64 0) := (by rw [hZ.cell]; rfl)
       have d1 : ((wd.alloc (.cells #[.int .i64 0, .slice none 0 0] 38)).alloc (.cells #[.string lb[k].k, .int .i64 7, .bool false] 52)).cell? ⟨wd.heap.size, 1, none⟩ = some (.slice none 0 0) := (by rw [hZ.cell]; rfl)
       have f0 := hZ.free 0
       have f1 := hZ.free 1
       have hB3 : Below wd.heap.size wd ((wd.alloc (.cells #[.int .i64 za, .slice (some ⟨wd.heap.size + 1, 0, none⟩) 1 1] 38)).alloc (.cells #[.string lb[k].k, .int .i64 7, .bool false] 52)) := below_alloc (below_alloc (Below.refl _ _) _) _
       have hZ3 : Blk ((wd.alloc (.cells #[.int .i64 za, .slice (some ⟨wd.heap.size + 1, 0, none⟩) 1 1] 38)).alloc (.cells #[.string lb[k].k, .int .i64 7, .bool false] 52)) wd.heap.size 38 #[.int .i64 za, .slice (some ⟨wd.heap.size + 1, 0, none⟩) 1 1] := (blkA wd _ _).alloc _
       have hS3 : Blk ((wd.alloc (.cells #[.int .i64 za, .slice (some ⟨wd.heap.size + 1, 0, none⟩) 1 1] 38)).alloc (.cells #[.string lb[k].k, .int .i64 7, .bool false] 52)) (wd.heap.size + 1) 52 #[.string lb[k].k, .int .i64 7, .bool false] := blkAt _ _ (World.size_alloc _ _)
       refine rd1 12 (fun K hK => ?_)
       go_simp
       refine hK.out _ _ ?_ (fun hHeld => ?_)
       focus ((try dsimp only); (exact ⟨by rw [(Ba_t22.next hB3).cell]; rfl, by rw [(Ba_t22.next hB3).cell]; rfl, by rw [(Bb_t22.next hB3).cell]; rfl, by rw [(Bb_t22.next hB3).cell]; rfl, by rw [(Bx_t22.next hB3).cell]; rfl, by rw [(Bx_t22.next hB3).cell]; rfl, (((b_t22.next hB3).rd'.2.2.2).fixX rfl hlt).1, (((b_t22.next hB3).rd'.2.2.2).fixX rfl hlt).2.1, (((b_t22.next hB3).rd'.2.2.2).fixX rfl hlt).2.2⟩))
       clear hK K
       try simp only [Act.put, pa, pb, pc]
       clear d0 d1 f0 f1
       refine wpAnyH_done (by kernel_rfl) ?_ _
       go_wp2
       go_meet
       case rel => exact ⟨wd.heap.size, wd.heap.size + 1, rfl, hZ3, OwnG.mk (α := X) (l := [(⟨lb[k].k, 7, false⟩ : X)]) (by omega) hS3 (by simp) (by decide) rfl rfl, hsd, below_next hc_t21 hB3⟩
     case rest =>
      obtain ⟨go, bs, rfl, Bo_n, o_n, hgo, hbc⟩ := hcut
      have a_t81 := a_t19.next hbc
      clear a_t19
      have b_t81 := b_t19.next hbc
      clear b_t19
      have x_t81 := x_t19.next hbc
      clear x_t19
      have Ba_t81 := Ba_t19.next hbc
      clear Ba_t19
      have Bb_t81 := Bb_t19.next hbc
      clear Bb_t19
      have Bx_t81 := Bx_t19.next hbc
      clear Bx_t19
      have hw_t81 := below_next hw_t19 hbc
      have hs_t81 := hbc.size
      have lw0_t82 := below_next lq0 hbc
      have hfo : FitXs [(⟨lb[k].k, 7, false⟩ : X)] := fun r hr => by rw [List.mem_singleton] at hr; subst hr; exact ⟨(hfb _ (List.getElem_mem hlt)).1, by show (-9223372036854775808 : Int) ≤ 7; omega, by show (7 : Int) ≤ 9223372036854775807; omega⟩
      have hl_R1 := versAt_length za la za
      have hf_R1 : FitR (versAt za la za) := fitR_versAt (z := za) hfa za
      obtain ⟨R1, HR1⟩ : ∃ R1, Hid (versAt za la za = R1) := ⟨_, Lib.hid rfl⟩
      rw [HR1.out] at hl_R1 hf_R1
      obtain ⟨GN, GB, HG⟩ : ∃ GN GB, Hid (getN R1 lb[k].k = GN ∧ getB R1 lb[k].k = GB) := ⟨_, _, Lib.hid ⟨rfl, rfl⟩⟩
      obtain ⟨OB, HOB⟩ : ∃ OB, Hid (workB RZ RL za [(⟨lb[k].k, 7, false⟩ : X)] = OB) := ⟨_, Lib.hid rfl⟩
      have h8 := end_len8 (z := RZ) (a := za) hfR hfo (by omega)
      obtain ⟨EZ, EL, EC, HEE⟩ : ∃ EZ EL EC, Hid (endZ RZ RL za [(⟨lb[k].k, 7, false⟩ : X)] = EZ ∧ endL RZ RL za [(⟨lb[k].k, 7, false⟩ : X)] = EL ∧ endC RZ RL za [(⟨lb[k].k, 7, false⟩ : X)] = EC) := ⟨_, _, _, Lib.hid ⟨rfl, rfl, rfl⟩⟩
      clear h8
      have HLT : Hid (OB = true → (GB = true ∨ lb[k].g = false) → EC = 2) := Lib.hid (fun h1 h2 => by rw [← HEE.out.2.2]; exact late_end HC0.out HE1.out HE2.out HNE.out (List.getElem_mem hlt) (HOB.out.trans h1) (h2.imp (fun h => by rw [HR1.out, HG.out.2]; exact h) id))
      cases ho : OB
      ·
       subst ho
       have qBa0 : wc.cell? ⟨w1.heap.size, 0, none⟩ = some (.int .i64 za) := by rw [Ba_t81.cell]; rfl
       have qBa1 : wc.cell? ⟨w1.heap.size, 1, none⟩ = some (.slice ada la.length ca) := by rw [Ba_t81.cell]; rfl
       have qBb0 : wc.cell? ⟨w1.heap.size + 1, 0, none⟩ = some (.int .i64 ab) := by rw [Bb_t81.cell]; rfl
       have qBb1 : wc.cell? ⟨w1.heap.size + 1, 1, none⟩ = some (.slice (some ⟨ebE, eoE, none⟩) lb.length cb) := by rw [Bb_t81.cell]; rfl
       have qBx0 : wc.cell? ⟨w2.heap.size, 0, none⟩ = some (.int .i64 RZ) := by rw [Bx_t81.cell]; rfl
       have qBx1 : wc.cell? ⟨w2.heap.size, 1, none⟩ = some (.slice adx RL.length cx) := by rw [Bx_t81.cell]; rfl
       have qBo0 : wc.cell? ⟨go, 0, none⟩ = some (.int .i64 za) := by rw [Bo_n.cell]; rfl
       have qBo1 : wc.cell? ⟨go, 1, none⟩ = some (.slice (some ⟨bs, 0, none⟩) 1 1) := by rw [Bo_n.cell]; rfl
       have qE0 : wc.cell? ⟨ebE, eoE + k * 3, none⟩ = some (.string lb[k].k) := ((b_t81.rd'.2.2.2).fixX rfl hlt).1
       have qE1 : wc.cell? ⟨ebE, eoE + k * 3 + 1, none⟩ = some (.int .i64 lb[k].n) := ((b_t81.rd'.2.2.2).fixX rfl hlt).2.1
       have qE2 : wc.cell? ⟨ebE, eoE + k * 3 + 2, none⟩ = some (.bool lb[k].g) := ((b_t81.rd'.2.2.2).fixX rfl hlt).2.2
       go_wp2
       clear qBa0 qBa1 qBb0 qBb1 qBx0 qBx1 qBo0 qBo1
       clear qE0 qE1 qE2
       have hb_t83 : Below wc.heap.size wc wc.drew := (Below.refl _ _).drew
       have a_t84 := a_t81.next hb_t83
       clear a_t81
       have b_t84 := b_t81.next hb_t83
       clear b_t81
       have x_t84 := x_t81.next hb_t83
       clear x_t81
       have o_t84 := o_n.next hb_t83
       clear o_n
       have Ba_t84 := Ba_t81.next hb_t83
       clear Ba_t81
       have Bb_t84 := Bb_t81.next hb_t83
       clear Bb_t81
       have Bx_t84 := Bx_t81.next hb_t83
       clear Bx_t81
       have Bo_t84 := Bo_n.next hb_t83
       clear Bo_n
       have hw_t84 := below_next hw_t81 hb_t83
       have hs_t84 := hb_t83.size
       have lw0_t85 := below_next lw0_t82 hb_t83
       refine wp_region_held_drew (S := (fun W => W.cell? ⟨w1.heap.size, 0, none⟩ = some (.int .i64 za) ∧ W.cell? ⟨w1.heap.size, 1, none⟩ = some (.slice ada la.length ca) ∧ W.cell? ⟨w1.heap.size + 1, 0, none⟩ = some (.int .i64 ab) ∧ W.cell? ⟨w1.heap.size + 1, 1, none⟩ = some (.slice (some ⟨ebE, eoE, none⟩) lb.length cb) ∧ W.cell? ⟨w2.heap.size, 0, none⟩ = some (.int .i64 RZ) ∧ W.cell? ⟨w2.heap.size, 1, none⟩ = some (.slice adx RL.length cx) ∧ W.cell? ⟨go, 0, none⟩ = some (.int .i64 za) ∧ W.cell? ⟨go, 1, none⟩ = some (.slice (some ⟨bs, 0, none⟩) 1 1) ∧ W.cell? ⟨ebE, eoE + k * 3, none⟩ = some (.string lb[k].k) ∧ W.cell? ⟨ebE, eoE + k * 3 + 1, none⟩ = some (.int .i64 lb[k].n) ∧ W.cell? ⟨ebE, eoE + k * 3 + 2, none⟩ = some (.bool lb[k].g))) (by kernel_rfl) ?_ (fun hHeld => ?_)
       focus ((try dsimp only); (exact ⟨by rw [Ba_t84.cell]; rfl, by rw [Ba_t84.cell]; rfl, by rw [Bb_t84.cell]; rfl, by rw [Bb_t84.cell]; rfl, by rw [Bx_t84.cell]; rfl, by rw [Bx_t84.cell]; rfl, by rw [Bo_t84.cell]; rfl, by rw [Bo_t84.cell]; rfl, ((b_t84.rd'.2.2.2).fixX rfl hlt).1, ((b_t84.rd'.2.2.2).fixX rfl hlt).2.1, ((b_t84.rd'.2.2.2).fixX rfl hlt).2.2⟩))
       refine tk 0 ?_
       refine tk 1 ?_
       refine tk 2 ?_
       refine tk 4 ?_
       refine tk 5 ?_
       refine tk 6 ?_
       refine tk 7 ?_
       refine tk 8 ?_
       refine tk 9 ?_
       (refine rd1 3 (fun K hK => ?_); go_simp; (go_at_call 49; refine (implVersAtO za a_t84 hfa (by omega)).mono ?_; rw [HR1.out]; rintro e w4 ⟨Vr, rfl, r_n, hb4⟩; obtain ⟨adr, cr, rfl, ry1_r, ry2_r, ry3_r⟩ := r_n.read; clear ry1_r ry2_r ry3_r; have a_t86 := a_t84.next hb4; clear a_t84; have b_t86 := b_t84.next hb4; clear b_t84; have x_t86 := x_t84.next hb4; clear x_t84; have o_t86 := o_t84.next hb4; clear o_t84; have Ba_t86 := Ba_t84.next hb4; clear Ba_t84; have Bb_t86 := Bb_t84.next hb4; clear Bb_t84; have Bx_t86 := Bx_t84.next hb4; clear Bx_t84; have Bo_t86 := Bo_t84.next hb4; clear Bo_t84; have hw_t86 := below_next hw_t84 hb4; have hs_t86 := hb4.size; have lw0_t87 := below_next lw0_t85 hb4); go_wp2_with fail; refine hK.out _ _ ?_ (fun hHeld => ?_); (focus ((try dsimp only); (exact ⟨by rw [Ba_t86.cell]; rfl, by rw [Ba_t86.cell]; rfl, by rw [Bb_t86.cell]; rfl, by rw [Bb_t86.cell]; rfl, by rw [Bx_t86.cell]; rfl, by rw [Bx_t86.cell]; rfl, by rw [Bo_t86.cell]; rfl, by rw [Bo_t86.cell]; rfl, ((b_t86.rd'.2.2.2).fixX rfl hlt).1, ((b_t86.rd'.2.2.2).fixX rfl hlt).2.1, ((b_t86.rd'.2.2.2).fixX rfl hlt).2.2⟩))); clear hK K; (try simp only [Act.put, pa, pb, pc]))
       (refine rd1 10 (fun K hK => ?_); go_simp; (go_at_call 41; refine (implGetO lb[k].k r_n hf_R1 (by omega)).mono ?_; rintro e w5 ⟨rfl, hb5⟩; rw [HG.out.1, HG.out.2]; have a_t88 := a_t86.next hb5; clear a_t86; have b_t88 := b_t86.next hb5; clear b_t86; have x_t88 := x_t86.next hb5; clear x_t86; have o_t88 := o_t86.next hb5; clear o_t86; have r_t88 := r_n.next hb5; clear r_n; have Ba_t88 := Ba_t86.next hb5; clear Ba_t86; have Bb_t88 := Bb_t86.next hb5; clear Bb_t86; have Bx_t88 := Bx_t86.next hb5; clear Bx_t86; have Bo_t88 := Bo_t86.next hb5; clear Bo_t86; have hw_t88 := below_next hw_t86 hb5; have hs_t88 := hb5.size; have lw0_t89 := below_next lw0_t87 hb5); go_wp2_with fail; refine hK.out _ _ ?_ (fun hHeld => ?_); (focus ((try dsimp only); (exact ⟨by rw [Ba_t88.cell]; rfl, by rw [Ba_t88.cell]; rfl, by rw [Bb_t88.cell]; rfl, by rw [Bb_t88.cell]; rfl, by rw [Bx_t88.cell]; rfl, by rw [Bx_t88.cell]; rfl, by rw [Bo_t88.cell]; rfl, by rw [Bo_t88.cell]; rfl, ((b_t88.rd'.2.2.2).fixX rfl hlt).1, ((b_t88.rd'.2.2.2).fixX rfl hlt).2.1, ((b_t88.rd'.2.2.2).fixX rfl hlt).2.2⟩))); clear hK K; (try simp only [Act.put, pa, pb, pc]))
       refine tk 11 ?_
       refine tk 12 ?_
       refine tk 13 ?_
       refine tk 14 ?_
       refine tk 15 ?_
       refine wpAnyH_done (by kernel_rfl) ?_ _
       clear r_t88
       have qBa0 : w5.cell? ⟨w1.heap.size, 0, none⟩ = some (.int .i64 za) := by rw [Ba_t88.cell]; rfl
       have qBa1 : w5.cell? ⟨w1.heap.size, 1, none⟩ = some (.slice ada la.length ca) := by rw [Ba_t88.cell]; rfl
       have qBb0 : w5.cell? ⟨w1.heap.size + 1, 0, none⟩ = some (.int .i64 ab) := by rw [Bb_t88.cell]; rfl
       have qBb1 : w5.cell? ⟨w1.heap.size + 1, 1, none⟩ = some (.slice (some ⟨ebE, eoE, none⟩) lb.length cb) := by rw [Bb_t88.cell]; rfl
       have qBx0 : w5.cell? ⟨w2.heap.size, 0, none⟩ = some (.int .i64 RZ) := by rw [Bx_t88.cell]; rfl
       have qBx1 : w5.cell? ⟨w2.heap.size, 1, none⟩ = some (.slice adx RL.length cx) := by rw [Bx_t88.cell]; rfl
       have qBo0 : w5.cell? ⟨go, 0, none⟩ = some (.int .i64 za) := by rw [Bo_t88.cell]; rfl
       have qBo1 : w5.cell? ⟨go, 1, none⟩ = some (.slice (some ⟨bs, 0, none⟩) 1 1) := by rw [Bo_t88.cell]; rfl
       have qE0 : w5.cell? ⟨ebE, eoE + k * 3, none⟩ = some (.string lb[k].k) := ((b_t88.rd'.2.2.2).fixX rfl hlt).1
       have qE1 : w5.cell? ⟨ebE, eoE + k * 3 + 1, none⟩ = some (.int .i64 lb[k].n) := ((b_t88.rd'.2.2.2).fixX rfl hlt).2.1
       have qE2 : w5.cell? ⟨ebE, eoE + k * 3 + 2, none⟩ = some (.bool lb[k].g) := ((b_t88.rd'.2.2.2).fixX rfl hlt).2.2
       go_wp2_with fail
       clear qBa0 qBa1 qBb0 qBb1 qBx0 qBx1 qBo0 qBo1
       clear qE0 qE1 qE2
       refine (implWorkEndO x_t88 o_t88 hfR hfo (by omega) (by simp)).mono ?_
       rw [HEE.out.1, HEE.out.2.1, HEE.out.2.2]
       rintro e w6 ⟨Vt, rfl, t_n, hb6⟩
       obtain ⟨adt, ct, rfl, ry1_t, ry2_t, ry3_t⟩ := t_n.read
       clear ry1_t ry2_t ry3_t
       have a_t90 := a_t88.next hb6
       clear a_t88
       have b_t90 := b_t88.next hb6
       clear b_t88
       have x_t90 := x_t88.next hb6
       clear x_t88
       have o_t90 := o_t88.next hb6
       clear o_t88
       have Ba_t90 := Ba_t88.next hb6
       clear Ba_t88
       have Bb_t90 := Bb_t88.next hb6
       clear Bb_t88
       have Bx_t90 := Bx_t88.next hb6
       clear Bx_t88
       have Bo_t90 := Bo_t88.next hb6
       clear Bo_t88
       have hw_t90 := below_next hw_t88 hb6
       have hs_t90 := hb6.size
       have lw0_t91 := below_next lw0_t89 hb6
       have hb_t92 := below_alloc (Below.refl _ w6) (.cells #[.int .i64 EZ, .slice adt EL.length ct] 34)
       have Bt_t92 := blkA w6 #[.int .i64 EZ, .slice adt EL.length ct] 34
       have hz_t92 : (w6.alloc (.cells #[.int .i64 EZ, .slice adt EL.length ct] 34)).heap.size = w6.heap.size + 1 := World.size_alloc _ _
       have a_t93 := a_t90.next hb_t92
       clear a_t90
       have b_t93 := b_t90.next hb_t92
       clear b_t90
       have x_t93 := x_t90.next hb_t92
       clear x_t90
       have o_t93 := o_t90.next hb_t92
       clear o_t90
       have t_t93 := t_n.next hb_t92
       clear t_n
       have Ba_t93 := Ba_t90.next hb_t92
       clear Ba_t90
       have Bb_t93 := Bb_t90.next hb_t92
       clear Bb_t90
       have Bx_t93 := Bx_t90.next hb_t92
       clear Bx_t90
       have Bo_t93 := Bo_t90.next hb_t92
       clear Bo_t90
       have hw_t93 := below_next hw_t90 hb_t92
       have hs_t93 := hb_t92.size
       have lw0_t94 := below_next lw0_t91 hb_t92
       clear t_t93
       have qBa0 : (w6.alloc (.cells #[.int .i64 EZ, .slice adt EL.length ct] 34)).cell? ⟨w1.heap.size, 0, none⟩ = some (.int .i64 za) := by rw [Ba_t93.cell]; rfl
       have qBa1 : (w6.alloc (.cells #[.int .i64 EZ, .slice adt EL.length ct] 34)).cell? ⟨w1.heap.size, 1, none⟩ = some (.slice ada la.length ca) := by rw [Ba_t93.cell]; rfl
       have qBb0 : (w6.alloc (.cells #[.int .i64 EZ, .slice adt EL.length ct] 34)).cell? ⟨w1.heap.size + 1, 0, none⟩ = some (.int .i64 ab) := by rw [Bb_t93.cell]; rfl
       have qBb1 : (w6.alloc (.cells #[.int .i64 EZ, .slice adt EL.length ct] 34)).cell? ⟨w1.heap.size + 1, 1, none⟩ = some (.slice (some ⟨ebE, eoE, none⟩) lb.length cb) := by rw [Bb_t93.cell]; rfl
       have qBx0 : (w6.alloc (.cells #[.int .i64 EZ, .slice adt EL.length ct] 34)).cell? ⟨w2.heap.size, 0, none⟩ = some (.int .i64 RZ) := by rw [Bx_t93.cell]; rfl
       have qBx1 : (w6.alloc (.cells #[.int .i64 EZ, .slice adt EL.length ct] 34)).cell? ⟨w2.heap.size, 1, none⟩ = some (.slice adx RL.length cx) := by rw [Bx_t93.cell]; rfl
       have qBo0 : (w6.alloc (.cells #[.int .i64 EZ, .slice adt EL.length ct] 34)).cell? ⟨go, 0, none⟩ = some (.int .i64 za) := by rw [Bo_t93.cell]; rfl
       have qBo1 : (w6.alloc (.cells #[.int .i64 EZ, .slice adt EL.length ct] 34)).cell? ⟨go, 1, none⟩ = some (.slice (some ⟨bs, 0, none⟩) 1 1) := by rw [Bo_t93.cell]; rfl
       have qBt0 : (w6.alloc (.cells #[.int .i64 EZ, .slice adt EL.length ct] 34)).cell? ⟨w6.heap.size, 0, none⟩ = some (.int .i64 EZ) := by rw [Bt_t92.cell]; rfl
       have qBt1 : (w6.alloc (.cells #[.int .i64 EZ, .slice adt EL.length ct] 34)).cell? ⟨w6.heap.size, 1, none⟩ = some (.slice adt EL.length ct) := by rw [Bt_t92.cell]; rfl
       have qE0 : (w6.alloc (.cells #[.int .i64 EZ, .slice adt EL.length ct] 34)).cell? ⟨ebE, eoE + k * 3, none⟩ = some (.string lb[k].k) := ((b_t93.rd'.2.2.2).fixX rfl hlt).1
       have qE1 : (w6.alloc (.cells #[.int .i64 EZ, .slice adt EL.length ct] 34)).cell? ⟨ebE, eoE + k * 3 + 1, none⟩ = some (.int .i64 lb[k].n) := ((b_t93.rd'.2.2.2).fixX rfl hlt).2.1
       have qE2 : (w6.alloc (.cells #[.int .i64 EZ, .slice adt EL.length ct] 34)).cell? ⟨ebE, eoE + k * 3 + 2, none⟩ = some (.bool lb[k].g) := ((b_t93.rd'.2.2.2).fixX rfl hlt).2.2
       go_wp2_with fail
       clear qBa0 qBa1 qBb0 qBb1 qBx0 qBx1 qBo0 qBo1 qBt0 qBt1
       clear qE0 qE1 qE2
       refine (implWorkOkO x_t93 o_t93 hfR hfo (by omega) (by simp)).mono ?_
       rintro e w7 ⟨rfl, hb7⟩
       rw [HOB.out]
       have a_t95 := a_t93.next hb7
       clear a_t93
       have b_t95 := b_t93.next hb7
       clear b_t93
       have x_t95 := x_t93.next hb7
       clear x_t93
       have o_t95 := o_t93.next hb7
       clear o_t93
       have Ba_t95 := Ba_t93.next hb7
       clear Ba_t93
       have Bb_t95 := Bb_t93.next hb7
       clear Bb_t93
       have Bx_t95 := Bx_t93.next hb7
       clear Bx_t93
       have Bo_t95 := Bo_t93.next hb7
       clear Bo_t93
       have Bt_t95 := Bt_t92.next hb7
       clear Bt_t92
       have hw_t95 := below_next hw_t93 hb7
       have hs_t95 := hb7.size
       have lw0_t96 := below_next lw0_t94 hb7
       have qBa0 : w7.cell? ⟨w1.heap.size, 0, none⟩ = some (.int .i64 za) := by rw [Ba_t95.cell]; rfl
       have qBa1 : w7.cell? ⟨w1.heap.size, 1, none⟩ = some (.slice ada la.length ca) := by rw [Ba_t95.cell]; rfl
       have qBb0 : w7.cell? ⟨w1.heap.size + 1, 0, none⟩ = some (.int .i64 ab) := by rw [Bb_t95.cell]; rfl
       have qBb1 : w7.cell? ⟨w1.heap.size + 1, 1, none⟩ = some (.slice (some ⟨ebE, eoE, none⟩) lb.length cb) := by rw [Bb_t95.cell]; rfl
       have qBx0 : w7.cell? ⟨w2.heap.size, 0, none⟩ = some (.int .i64 RZ) := by rw [Bx_t95.cell]; rfl
       have qBx1 : w7.cell? ⟨w2.heap.size, 1, none⟩ = some (.slice adx RL.length cx) := by rw [Bx_t95.cell]; rfl
       have qBo0 : w7.cell? ⟨go, 0, none⟩ = some (.int .i64 za) := by rw [Bo_t95.cell]; rfl
       have qBo1 : w7.cell? ⟨go, 1, none⟩ = some (.slice (some ⟨bs, 0, none⟩) 1 1) := by rw [Bo_t95.cell]; rfl
       have qBt0 : w7.cell? ⟨w6.heap.size, 0, none⟩ = some (.int .i64 EZ) := by rw [Bt_t95.cell]; rfl
       have qBt1 : w7.cell? ⟨w6.heap.size, 1, none⟩ = some (.slice adt EL.length ct) := by rw [Bt_t95.cell]; rfl
       have qE0 : w7.cell? ⟨ebE, eoE + k * 3, none⟩ = some (.string lb[k].k) := ((b_t95.rd'.2.2.2).fixX rfl hlt).1
       have qE1 : w7.cell? ⟨ebE, eoE + k * 3 + 1, none⟩ = some (.int .i64 lb[k].n) := ((b_t95.rd'.2.2.2).fixX rfl hlt).2.1
       have qE2 : w7.cell? ⟨ebE, eoE + k * 3 + 2, none⟩ = some (.bool lb[k].g) := ((b_t95.rd'.2.2.2).fixX rfl hlt).2.2
       go_wp2
       go_roundw
       case rel => exact ⟨k + 1, by omega, by go_num, lw0_t96⟩
       case measure => simp [intOf]; omega
      ·
       subst ho
       cases hgb : GB
       ·
        subst hgb
        cases hg : lb[k].g
        ·
         have e := HLT.out rfl (.inr hg)
         subst e
         have qBa0 : wc.cell? ⟨w1.heap.size, 0, none⟩ = some (.int .i64 za) := by rw [Ba_t81.cell]; rfl
         have qBa1 : wc.cell? ⟨w1.heap.size, 1, none⟩ = some (.slice ada la.length ca) := by rw [Ba_t81.cell]; rfl
         have qBb0 : wc.cell? ⟨w1.heap.size + 1, 0, none⟩ = some (.int .i64 ab) := by rw [Bb_t81.cell]; rfl
         have qBb1 : wc.cell? ⟨w1.heap.size + 1, 1, none⟩ = some (.slice (some ⟨ebE, eoE, none⟩) lb.length cb) := by rw [Bb_t81.cell]; rfl
         have qBx0 : wc.cell? ⟨w2.heap.size, 0, none⟩ = some (.int .i64 RZ) := by rw [Bx_t81.cell]; rfl
         have qBx1 : wc.cell? ⟨w2.heap.size, 1, none⟩ = some (.slice adx RL.length cx) := by rw [Bx_t81.cell]; rfl
         have qBo0 : wc.cell? ⟨go, 0, none⟩ = some (.int .i64 za) := by rw [Bo_n.cell]; rfl
         have qBo1 : wc.cell? ⟨go, 1, none⟩ = some (.slice (some ⟨bs, 0, none⟩) 1 1) := by rw [Bo_n.cell]; rfl
         have qE0 : wc.cell? ⟨ebE, eoE + k * 3, none⟩ = some (.string lb[k].k) := ((b_t81.rd'.2.2.2).fixX rfl hlt).1
         have qE1 : wc.cell? ⟨ebE, eoE + k * 3 + 1, none⟩ = some (.int .i64 lb[k].n) := ((b_t81.rd'.2.2.2).fixX rfl hlt).2.1
         have qE2 : wc.cell? ⟨ebE, eoE + k * 3 + 2, none⟩ = some (.bool lb[k].g) := ((b_t81.rd'.2.2.2).fixX rfl hlt).2.2
         go_wp2
         clear qBa0 qBa1 qBb0 qBb1 qBx0 qBx1 qBo0 qBo1
         clear qE0 qE1 qE2
         have hb_t83 : Below wc.heap.size wc wc.drew := (Below.refl _ _).drew
         have a_t84 := a_t81.next hb_t83
         clear a_t81
         have b_t84 := b_t81.next hb_t83
         clear b_t81
         have x_t84 := x_t81.next hb_t83
         clear x_t81
         have o_t84 := o_n.next hb_t83
         clear o_n
         have Ba_t84 := Ba_t81.next hb_t83
         clear Ba_t81
         have Bb_t84 := Bb_t81.next hb_t83
         clear Bb_t81
         have Bx_t84 := Bx_t81.next hb_t83
         clear Bx_t81
         have Bo_t84 := Bo_n.next hb_t83
         clear Bo_n
         have hw_t84 := below_next hw_t81 hb_t83
         have hs_t84 := hb_t83.size
         have lw0_t85 := below_next lw0_t82 hb_t83
         refine wp_region_held_drew (S := (fun W => W.cell? ⟨w1.heap.size, 0, none⟩ = some (.int .i64 za) ∧ W.cell? ⟨w1.heap.size, 1, none⟩ = some (.slice ada la.length ca) ∧ W.cell? ⟨w1.heap.size + 1, 0, none⟩ = some (.int .i64 ab) ∧ W.cell? ⟨w1.heap.size + 1, 1, none⟩ = some (.slice (some ⟨ebE, eoE, none⟩) lb.length cb) ∧ W.cell? ⟨w2.heap.size, 0, none⟩ = some (.int .i64 RZ) ∧ W.cell? ⟨w2.heap.size, 1, none⟩ = some (.slice adx RL.length cx) ∧ W.cell? ⟨go, 0, none⟩ = some (.int .i64 za) ∧ W.cell? ⟨go, 1, none⟩ = some (.slice (some ⟨bs, 0, none⟩) 1 1) ∧ W.cell? ⟨ebE, eoE + k * 3, none⟩ = some (.string lb[k].k) ∧ W.cell? ⟨ebE, eoE + k * 3 + 1, none⟩ = some (.int .i64 lb[k].n) ∧ W.cell? ⟨ebE, eoE + k * 3 + 2, none⟩ = some (.bool lb[k].g))) (by kernel_rfl) ?_ (fun hHeld => ?_)
         focus ((try dsimp only); (exact ⟨by rw [Ba_t84.cell]; rfl, by rw [Ba_t84.cell]; rfl, by rw [Bb_t84.cell]; rfl, by rw [Bb_t84.cell]; rfl, by rw [Bx_t84.cell]; rfl, by rw [Bx_t84.cell]; rfl, by rw [Bo_t84.cell]; rfl, by rw [Bo_t84.cell]; rfl, ((b_t84.rd'.2.2.2).fixX rfl hlt).1, ((b_t84.rd'.2.2.2).fixX rfl hlt).2.1, ((b_t84.rd'.2.2.2).fixX rfl hlt).2.2⟩))
         refine tk 0 ?_
         refine tk 1 ?_
         refine tk 2 ?_
         refine tk 4 ?_
         refine tk 5 ?_
         refine tk 6 ?_
         refine tk 7 ?_
         refine tk 8 ?_
         refine tk 9 ?_
         (refine rd1 3 (fun K hK => ?_); go_simp; (go_at_call 49; refine (implVersAtO za a_t84 hfa (by omega)).mono ?_; rw [HR1.out]; rintro e w4 ⟨Vr, rfl, r_n, hb4⟩; obtain ⟨adr, cr, rfl, ry1_r, ry2_r, ry3_r⟩ := r_n.read; clear ry1_r ry2_r ry3_r; have a_t86 := a_t84.next hb4; clear a_t84; have b_t86 := b_t84.next hb4; clear b_t84; have x_t86 := x_t84.next hb4; clear x_t84; have o_t86 := o_t84.next hb4; clear o_t84; have Ba_t86 := Ba_t84.next hb4; clear Ba_t84; have Bb_t86 := Bb_t84.next hb4; clear Bb_t84; have Bx_t86 := Bx_t84.next hb4; clear Bx_t84; have Bo_t86 := Bo_t84.next hb4; clear Bo_t84; have hw_t86 := below_next hw_t84 hb4; have hs_t86 := hb4.size; have lw0_t87 := below_next lw0_t85 hb4); go_wp2_with fail; refine hK.out _ _ ?_ (fun hHeld => ?_); (focus ((try dsimp only); (exact ⟨by rw [Ba_t86.cell]; rfl, by rw [Ba_t86.cell]; rfl, by rw [Bb_t86.cell]; rfl, by rw [Bb_t86.cell]; rfl, by rw [Bx_t86.cell]; rfl, by rw [Bx_t86.cell]; rfl, by rw [Bo_t86.cell]; rfl, by rw [Bo_t86.cell]; rfl, ((b_t86.rd'.2.2.2).fixX rfl hlt).1, ((b_t86.rd'.2.2.2).fixX rfl hlt).2.1, ((b_t86.rd'.2.2.2).fixX rfl hlt).2.2⟩))); clear hK K; (try simp only [Act.put, pa, pb, pc]))
         (refine rd1 10 (fun K hK => ?_); go_simp; (go_at_call 41; refine (implGetO lb[k].k r_n hf_R1 (by omega)).mono ?_; rintro e w5 ⟨rfl, hb5⟩; rw [HG.out.1, HG.out.2]; have a_t88 := a_t86.next hb5; clear a_t86; have b_t88 := b_t86.next hb5; clear b_t86; have x_t88 := x_t86.next hb5; clear x_t86; have o_t88 := o_t86.next hb5; clear o_t86; have r_t88 := r_n.next hb5; clear r_n; have Ba_t88 := Ba_t86.next hb5; clear Ba_t86; have Bb_t88 := Bb_t86.next hb5; clear Bb_t86; have Bx_t88 := Bx_t86.next hb5; clear Bx_t86; have Bo_t88 := Bo_t86.next hb5; clear Bo_t86; have hw_t88 := below_next hw_t86 hb5; have hs_t88 := hb5.size; have lw0_t89 := below_next lw0_t87 hb5); go_wp2_with fail; refine hK.out _ _ ?_ (fun hHeld => ?_); (focus ((try dsimp only); (exact ⟨by rw [Ba_t88.cell]; rfl, by rw [Ba_t88.cell]; rfl, by rw [Bb_t88.cell]; rfl, by rw [Bb_t88.cell]; rfl, by rw [Bx_t88.cell]; rfl, by rw [Bx_t88.cell]; rfl, by rw [Bo_t88.cell]; rfl, by rw [Bo_t88.cell]; rfl, ((b_t88.rd'.2.2.2).fixX rfl hlt).1, ((b_t88.rd'.2.2.2).fixX rfl hlt).2.1, ((b_t88.rd'.2.2.2).fixX rfl hlt).2.2⟩))); clear hK K; (try simp only [Act.put, pa, pb, pc]))
         refine tk 11 ?_
         refine tk 12 ?_
         refine tk 13 ?_
         refine tk 14 ?_
         refine tk 15 ?_
         refine wpAnyH_done (by kernel_rfl) ?_ _
         clear r_t88
         have qBa0 : w5.cell? ⟨w1.heap.size, 0, none⟩ = some (.int .i64 za) := by rw [Ba_t88.cell]; rfl
         have qBa1 : w5.cell? ⟨w1.heap.size, 1, none⟩ = some (.slice ada la.length ca) := by rw [Ba_t88.cell]; rfl
         have qBb0 : w5.cell? ⟨w1.heap.size + 1, 0, none⟩ = some (.int .i64 ab) := by rw [Bb_t88.cell]; rfl
         have qBb1 : w5.cell? ⟨w1.heap.size + 1, 1, none⟩ = some (.slice (some ⟨ebE, eoE, none⟩) lb.length cb) := by rw [Bb_t88.cell]; rfl
         have qBx0 : w5.cell? ⟨w2.heap.size, 0, none⟩ = some (.int .i64 RZ) := by rw [Bx_t88.cell]; rfl
         have qBx1 : w5.cell? ⟨w2.heap.size, 1, none⟩ = some (.slice adx RL.length cx) := by rw [Bx_t88.cell]; rfl
         have qBo0 : w5.cell? ⟨go, 0, none⟩ = some (.int .i64 za) := by rw [Bo_t88.cell]; rfl
         have qBo1 : w5.cell? ⟨go, 1, none⟩ = some (.slice (some ⟨bs, 0, none⟩) 1 1) := by rw [Bo_t88.cell]; rfl
         have qE0 : w5.cell? ⟨ebE, eoE + k * 3, none⟩ = some (.string lb[k].k) := ((b_t88.rd'.2.2.2).fixX rfl hlt).1
         have qE1 : w5.cell? ⟨ebE, eoE + k * 3 + 1, none⟩ = some (.int .i64 lb[k].n) := ((b_t88.rd'.2.2.2).fixX rfl hlt).2.1
         have qE2 : w5.cell? ⟨ebE, eoE + k * 3 + 2, none⟩ = some (.bool lb[k].g) := ((b_t88.rd'.2.2.2).fixX rfl hlt).2.2
         go_wp2_with fail
         clear qBa0 qBa1 qBb0 qBb1 qBx0 qBx1 qBo0 qBo1
         clear qE0 qE1 qE2
         refine (implWorkEndO x_t88 o_t88 hfR hfo (by omega) (by simp)).mono ?_
         rw [HEE.out.1, HEE.out.2.1, HEE.out.2.2]
         rintro e w6 ⟨Vt, rfl, t_n, hb6⟩
         obtain ⟨adt, ct, rfl, ry1_t, ry2_t, ry3_t⟩ := t_n.read
         clear ry1_t ry2_t ry3_t
         have a_t90 := a_t88.next hb6
         clear a_t88
         have b_t90 := b_t88.next hb6
         clear b_t88
         have x_t90 := x_t88.next hb6
         clear x_t88
         have o_t90 := o_t88.next hb6
         clear o_t88
         have Ba_t90 := Ba_t88.next hb6
         clear Ba_t88
         have Bb_t90 := Bb_t88.next hb6
         clear Bb_t88
         have Bx_t90 := Bx_t88.next hb6
         clear Bx_t88
         have Bo_t90 := Bo_t88.next hb6
         clear Bo_t88
         have hw_t90 := below_next hw_t88 hb6
         have hs_t90 := hb6.size
         have lw0_t91 := below_next lw0_t89 hb6
         have hb_t92 := below_alloc (Below.refl _ w6) (.cells #[.int .i64 EZ, .slice adt EL.length ct] 34)
         have Bt_t92 := blkA w6 #[.int .i64 EZ, .slice adt EL.length ct] 34
         have hz_t92 : (w6.alloc (.cells #[.int .i64 EZ, .slice adt EL.length ct] 34)).heap.size = w6.heap.size + 1 := World.size_alloc _ _
         have a_t93 := a_t90.next hb_t92
         clear a_t90
         have b_t93 := b_t90.next hb_t92
         clear b_t90
         have x_t93 := x_t90.next hb_t92
         clear x_t90
         have o_t93 := o_t90.next hb_t92
         clear o_t90
         have t_t93 := t_n.next hb_t92
         clear t_n
         have Ba_t93 := Ba_t90.next hb_t92
         clear Ba_t90
         have Bb_t93 := Bb_t90.next hb_t92
         clear Bb_t90
         have Bx_t93 := Bx_t90.next hb_t92
         clear Bx_t90
         have Bo_t93 := Bo_t90.next hb_t92
         clear Bo_t90
         have hw_t93 := below_next hw_t90 hb_t92
         have hs_t93 := hb_t92.size
         have lw0_t94 := below_next lw0_t91 hb_t92
         clear t_t93
         have qBa0 : (w6.alloc (.cells #[.int .i64 EZ, .slice adt EL.length ct] 34)).cell? ⟨w1.heap.size, 0, none⟩ = some (.int .i64 za) := by rw [Ba_t93.cell]; rfl
         have qBa1 : (w6.alloc (.cells #[.int .i64 EZ, .slice adt EL.length ct] 34)).cell? ⟨w1.heap.size, 1, none⟩ = some (.slice ada la.length ca) := by rw [Ba_t93.cell]; rfl
         have qBb0 : (w6.alloc (.cells #[.int .i64 EZ, .slice adt EL.length ct] 34)).cell? ⟨w1.heap.size + 1, 0, none⟩ = some (.int .i64 ab) := by rw [Bb_t93.cell]; rfl
         have qBb1 : (w6.alloc (.cells #[.int .i64 EZ, .slice adt EL.length ct] 34)).cell? ⟨w1.heap.size + 1, 1, none⟩ = some (.slice (some ⟨ebE, eoE, none⟩) lb.length cb) := by rw [Bb_t93.cell]; rfl
         have qBx0 : (w6.alloc (.cells #[.int .i64 EZ, .slice adt EL.length ct] 34)).cell? ⟨w2.heap.size, 0, none⟩ = some (.int .i64 RZ) := by rw [Bx_t93.cell]; rfl
         have qBx1 : (w6.alloc (.cells #[.int .i64 EZ, .slice adt EL.length ct] 34)).cell? ⟨w2.heap.size, 1, none⟩ = some (.slice adx RL.length cx) := by rw [Bx_t93.cell]; rfl
         have qBo0 : (w6.alloc (.cells #[.int .i64 EZ, .slice adt EL.length ct] 34)).cell? ⟨go, 0, none⟩ = some (.int .i64 za) := by rw [Bo_t93.cell]; rfl
         have qBo1 : (w6.alloc (.cells #[.int .i64 EZ, .slice adt EL.length ct] 34)).cell? ⟨go, 1, none⟩ = some (.slice (some ⟨bs, 0, none⟩) 1 1) := by rw [Bo_t93.cell]; rfl
         have qBt0 : (w6.alloc (.cells #[.int .i64 EZ, .slice adt EL.length ct] 34)).cell? ⟨w6.heap.size, 0, none⟩ = some (.int .i64 EZ) := by rw [Bt_t92.cell]; rfl
         have qBt1 : (w6.alloc (.cells #[.int .i64 EZ, .slice adt EL.length ct] 34)).cell? ⟨w6.heap.size, 1, none⟩ = some (.slice adt EL.length ct) := by rw [Bt_t92.cell]; rfl
         have qE0 : (w6.alloc (.cells #[.int .i64 EZ, .slice adt EL.length ct] 34)).cell? ⟨ebE, eoE + k * 3, none⟩ = some (.string lb[k].k) := ((b_t93.rd'.2.2.2).fixX rfl hlt).1
         have qE1 : (w6.alloc (.cells #[.int .i64 EZ, .slice adt EL.length ct] 34)).cell? ⟨ebE, eoE + k * 3 + 1, none⟩ = some (.int .i64 lb[k].n) := ((b_t93.rd'.2.2.2).fixX rfl hlt).2.1
         have qE2 : (w6.alloc (.cells #[.int .i64 EZ, .slice adt EL.length ct] 34)).cell? ⟨ebE, eoE + k * 3 + 2, none⟩ = some (.bool lb[k].g) := ((b_t93.rd'.2.2.2).fixX rfl hlt).2.2
         go_wp2_with fail
         clear qBa0 qBa1 qBb0 qBb1 qBx0 qBx1 qBo0 qBo1 qBt0 qBt1
         clear qE0 qE1 qE2
         refine (implWorkOkO x_t93 o_t93 hfR hfo (by omega) (by simp)).mono ?_
         rintro e w7 ⟨rfl, hb7⟩
         rw [HOB.out]
         have a_t95 := a_t93.next hb7
         clear a_t93
         have b_t95 := b_t93.next hb7
         clear b_t93
         have x_t95 := x_t93.next hb7
         clear x_t93
         have o_t95 := o_t93.next hb7
         clear o_t93
         have Ba_t95 := Ba_t93.next hb7
         clear Ba_t93
         have Bb_t95 := Bb_t93.next hb7
         clear Bb_t93
         have Bx_t95 := Bx_t93.next hb7
         clear Bx_t93
         have Bo_t95 := Bo_t93.next hb7
         clear Bo_t93
         have Bt_t95 := Bt_t92.next hb7
         clear Bt_t92
         have hw_t95 := below_next hw_t93 hb7
         have hs_t95 := hb7.size
         have lw0_t96 := below_next lw0_t94 hb7
         have qBa0 : w7.cell? ⟨w1.heap.size, 0, none⟩ = some (.int .i64 za) := by rw [Ba_t95.cell]; rfl
         have qBa1 : w7.cell? ⟨w1.heap.size, 1, none⟩ = some (.slice ada la.length ca) := by rw [Ba_t95.cell]; rfl
         have qBb0 : w7.cell? ⟨w1.heap.size + 1, 0, none⟩ = some (.int .i64 ab) := by rw [Bb_t95.cell]; rfl
         have qBb1 : w7.cell? ⟨w1.heap.size + 1, 1, none⟩ = some (.slice (some ⟨ebE, eoE, none⟩) lb.length cb) := by rw [Bb_t95.cell]; rfl
         have qBx0 : w7.cell? ⟨w2.heap.size, 0, none⟩ = some (.int .i64 RZ) := by rw [Bx_t95.cell]; rfl
         have qBx1 : w7.cell? ⟨w2.heap.size, 1, none⟩ = some (.slice adx RL.length cx) := by rw [Bx_t95.cell]; rfl
         have qBo0 : w7.cell? ⟨go, 0, none⟩ = some (.int .i64 za) := by rw [Bo_t95.cell]; rfl
         have qBo1 : w7.cell? ⟨go, 1, none⟩ = some (.slice (some ⟨bs, 0, none⟩) 1 1) := by rw [Bo_t95.cell]; rfl
         have qBt0 : w7.cell? ⟨w6.heap.size, 0, none⟩ = some (.int .i64 EZ) := by rw [Bt_t95.cell]; rfl
         have qBt1 : w7.cell? ⟨w6.heap.size, 1, none⟩ = some (.slice adt EL.length ct) := by rw [Bt_t95.cell]; rfl
         have qE0 : w7.cell? ⟨ebE, eoE + k * 3, none⟩ = some (.string lb[k].k) := ((b_t95.rd'.2.2.2).fixX rfl hlt).1
         have qE1 : w7.cell? ⟨ebE, eoE + k * 3 + 1, none⟩ = some (.int .i64 lb[k].n) := ((b_t95.rd'.2.2.2).fixX rfl hlt).2.1
         have qE2 : w7.cell? ⟨ebE, eoE + k * 3 + 2, none⟩ = some (.bool lb[k].g) := ((b_t95.rd'.2.2.2).fixX rfl hlt).2.2
         go_wp2
         go_roundw
         case rel => exact ⟨k + 1, by omega, by go_num, lw0_t96⟩
         case measure => simp [intOf]; omega
        ·
         have qBa0 : wc.cell? ⟨w1.heap.size, 0, none⟩ = some (.int .i64 za) := by rw [Ba_t81.cell]; rfl
         have qBa1 : wc.cell? ⟨w1.heap.size, 1, none⟩ = some (.slice ada la.length ca) := by rw [Ba_t81.cell]; rfl
         have qBb0 : wc.cell? ⟨w1.heap.size + 1, 0, none⟩ = some (.int .i64 ab) := by rw [Bb_t81.cell]; rfl
         have qBb1 : wc.cell? ⟨w1.heap.size + 1, 1, none⟩ = some (.slice (some ⟨ebE, eoE, none⟩) lb.length cb) := by rw [Bb_t81.cell]; rfl
         have qBx0 : wc.cell? ⟨w2.heap.size, 0, none⟩ = some (.int .i64 RZ) := by rw [Bx_t81.cell]; rfl
         have qBx1 : wc.cell? ⟨w2.heap.size, 1, none⟩ = some (.slice adx RL.length cx) := by rw [Bx_t81.cell]; rfl
         have qBo0 : wc.cell? ⟨go, 0, none⟩ = some (.int .i64 za) := by rw [Bo_n.cell]; rfl
         have qBo1 : wc.cell? ⟨go, 1, none⟩ = some (.slice (some ⟨bs, 0, none⟩) 1 1) := by rw [Bo_n.cell]; rfl
         have qE0 : wc.cell? ⟨ebE, eoE + k * 3, none⟩ = some (.string lb[k].k) := ((b_t81.rd'.2.2.2).fixX rfl hlt).1
         have qE1 : wc.cell? ⟨ebE, eoE + k * 3 + 1, none⟩ = some (.int .i64 lb[k].n) := ((b_t81.rd'.2.2.2).fixX rfl hlt).2.1
         have qE2 : wc.cell? ⟨ebE, eoE + k * 3 + 2, none⟩ = some (.bool lb[k].g) := ((b_t81.rd'.2.2.2).fixX rfl hlt).2.2
         go_wp2
         clear qBa0 qBa1 qBb0 qBb1 qBx0 qBx1 qBo0 qBo1
         clear qE0 qE1 qE2
         have hb_t83 : Below wc.heap.size wc wc.drew := (Below.refl _ _).drew
         have a_t84 := a_t81.next hb_t83
         clear a_t81
         have b_t84 := b_t81.next hb_t83
         clear b_t81
         have x_t84 := x_t81.next hb_t83
         clear x_t81
         have o_t84 := o_n.next hb_t83
         clear o_n
         have Ba_t84 := Ba_t81.next hb_t83
         clear Ba_t81
         have Bb_t84 := Bb_t81.next hb_t83
         clear Bb_t81
         have Bx_t84 := Bx_t81.next hb_t83
         clear Bx_t81
         have Bo_t84 := Bo_n.next hb_t83
         clear Bo_n
         have hw_t84 := below_next hw_t81 hb_t83
         have hs_t84 := hb_t83.size
         have lw0_t85 := below_next lw0_t82 hb_t83
         refine wp_region_held_drew (S := (fun W => W.cell? ⟨w1.heap.size, 0, none⟩ = some (.int .i64 za) ∧ W.cell? ⟨w1.heap.size, 1, none⟩ = some (.slice ada la.length ca) ∧ W.cell? ⟨w1.heap.size + 1, 0, none⟩ = some (.int .i64 ab) ∧ W.cell? ⟨w1.heap.size + 1, 1, none⟩ = some (.slice (some ⟨ebE, eoE, none⟩) lb.length cb) ∧ W.cell? ⟨w2.heap.size, 0, none⟩ = some (.int .i64 RZ) ∧ W.cell? ⟨w2.heap.size, 1, none⟩ = some (.slice adx RL.length cx) ∧ W.cell? ⟨go, 0, none⟩ = some (.int .i64 za) ∧ W.cell? ⟨go, 1, none⟩ = some (.slice (some ⟨bs, 0, none⟩) 1 1) ∧ W.cell? ⟨ebE, eoE + k * 3, none⟩ = some (.string lb[k].k) ∧ W.cell? ⟨ebE, eoE + k * 3 + 1, none⟩ = some (.int .i64 lb[k].n) ∧ W.cell? ⟨ebE, eoE + k * 3 + 2, none⟩ = some (.bool lb[k].g))) (by kernel_rfl) ?_ (fun hHeld => ?_)
         focus ((try dsimp only); (exact ⟨by rw [Ba_t84.cell]; rfl, by rw [Ba_t84.cell]; rfl, by rw [Bb_t84.cell]; rfl, by rw [Bb_t84.cell]; rfl, by rw [Bx_t84.cell]; rfl, by rw [Bx_t84.cell]; rfl, by rw [Bo_t84.cell]; rfl, by rw [Bo_t84.cell]; rfl, ((b_t84.rd'.2.2.2).fixX rfl hlt).1, ((b_t84.rd'.2.2.2).fixX rfl hlt).2.1, ((b_t84.rd'.2.2.2).fixX rfl hlt).2.2⟩))
         refine tk 0 ?_
         refine tk 1 ?_
         refine tk 2 ?_
         refine tk 4 ?_
         refine tk 5 ?_
         refine tk 6 ?_
         refine tk 7 ?_
         refine tk 8 ?_
         refine tk 9 ?_
         (refine rd1 3 (fun K hK => ?_); go_simp; (go_at_call 49; refine (implVersAtO za a_t84 hfa (by omega)).mono ?_; rw [HR1.out]; rintro e w4 ⟨Vr, rfl, r_n, hb4⟩; obtain ⟨adr, cr, rfl, ry1_r, ry2_r, ry3_r⟩ := r_n.read; clear ry1_r ry2_r ry3_r; have a_t86 := a_t84.next hb4; clear a_t84; have b_t86 := b_t84.next hb4; clear b_t84; have x_t86 := x_t84.next hb4; clear x_t84; have o_t86 := o_t84.next hb4; clear o_t84; have Ba_t86 := Ba_t84.next hb4; clear Ba_t84; have Bb_t86 := Bb_t84.next hb4; clear Bb_t84; have Bx_t86 := Bx_t84.next hb4; clear Bx_t84; have Bo_t86 := Bo_t84.next hb4; clear Bo_t84; have hw_t86 := below_next hw_t84 hb4; have hs_t86 := hb4.size; have lw0_t87 := below_next lw0_t85 hb4); go_wp2_with fail; refine hK.out _ _ ?_ (fun hHeld => ?_); (focus ((try dsimp only); (exact ⟨by rw [Ba_t86.cell]; rfl, by rw [Ba_t86.cell]; rfl, by rw [Bb_t86.cell]; rfl, by rw [Bb_t86.cell]; rfl, by rw [Bx_t86.cell]; rfl, by rw [Bx_t86.cell]; rfl, by rw [Bo_t86.cell]; rfl, by rw [Bo_t86.cell]; rfl, ((b_t86.rd'.2.2.2).fixX rfl hlt).1, ((b_t86.rd'.2.2.2).fixX rfl hlt).2.1, ((b_t86.rd'.2.2.2).fixX rfl hlt).2.2⟩))); clear hK K; (try simp only [Act.put, pa, pb, pc]))
         (refine rd1 10 (fun K hK => ?_); go_simp; (go_at_call 41; refine (implGetO lb[k].k r_n hf_R1 (by omega)).mono ?_; rintro e w5 ⟨rfl, hb5⟩; rw [HG.out.1, HG.out.2]; have a_t88 := a_t86.next hb5; clear a_t86; have b_t88 := b_t86.next hb5; clear b_t86; have x_t88 := x_t86.next hb5; clear x_t86; have o_t88 := o_t86.next hb5; clear o_t86; have r_t88 := r_n.next hb5; clear r_n; have Ba_t88 := Ba_t86.next hb5; clear Ba_t86; have Bb_t88 := Bb_t86.next hb5; clear Bb_t86; have Bx_t88 := Bx_t86.next hb5; clear Bx_t86; have Bo_t88 := Bo_t86.next hb5; clear Bo_t86; have hw_t88 := below_next hw_t86 hb5; have hs_t88 := hb5.size; have lw0_t89 := below_next lw0_t87 hb5); go_wp2_with fail; refine hK.out _ _ ?_ (fun hHeld => ?_); (focus ((try dsimp only); (exact ⟨by rw [Ba_t88.cell]; rfl, by rw [Ba_t88.cell]; rfl, by rw [Bb_t88.cell]; rfl, by rw [Bb_t88.cell]; rfl, by rw [Bx_t88.cell]; rfl, by rw [Bx_t88.cell]; rfl, by rw [Bo_t88.cell]; rfl, by rw [Bo_t88.cell]; rfl, ((b_t88.rd'.2.2.2).fixX rfl hlt).1, ((b_t88.rd'.2.2.2).fixX rfl hlt).2.1, ((b_t88.rd'.2.2.2).fixX rfl hlt).2.2⟩))); clear hK K; (try simp only [Act.put, pa, pb, pc]))
         refine tk 11 ?_
         refine tk 12 ?_
         refine tk 13 ?_
         refine tk 14 ?_
         refine tk 15 ?_
         refine wpAnyH_done (by kernel_rfl) ?_ _
         clear r_t88
         have qBa0 : w5.cell? ⟨w1.heap.size, 0, none⟩ = some (.int .i64 za) := by rw [Ba_t88.cell]; rfl
         have qBa1 : w5.cell? ⟨w1.heap.size, 1, none⟩ = some (.slice ada la.length ca) := by rw [Ba_t88.cell]; rfl
         have qBb0 : w5.cell? ⟨w1.heap.size + 1, 0, none⟩ = some (.int .i64 ab) := by rw [Bb_t88.cell]; rfl
         have qBb1 : w5.cell? ⟨w1.heap.size + 1, 1, none⟩ = some (.slice (some ⟨ebE, eoE, none⟩) lb.length cb) := by rw [Bb_t88.cell]; rfl
         have qBx0 : w5.cell? ⟨w2.heap.size, 0, none⟩ = some (.int .i64 RZ) := by rw [Bx_t88.cell]; rfl
         have qBx1 : w5.cell? ⟨w2.heap.size, 1, none⟩ = some (.slice adx RL.length cx) := by rw [Bx_t88.cell]; rfl
         have qBo0 : w5.cell? ⟨go, 0, none⟩ = some (.int .i64 za) := by rw [Bo_t88.cell]; rfl
         have qBo1 : w5.cell? ⟨go, 1, none⟩ = some (.slice (some ⟨bs, 0, none⟩) 1 1) := by rw [Bo_t88.cell]; rfl
         have qE0 : w5.cell? ⟨ebE, eoE + k * 3, none⟩ = some (.string lb[k].k) := ((b_t88.rd'.2.2.2).fixX rfl hlt).1
         have qE1 : w5.cell? ⟨ebE, eoE + k * 3 + 1, none⟩ = some (.int .i64 lb[k].n) := ((b_t88.rd'.2.2.2).fixX rfl hlt).2.1
         have qE2 : w5.cell? ⟨ebE, eoE + k * 3 + 2, none⟩ = some (.bool lb[k].g) := ((b_t88.rd'.2.2.2).fixX rfl hlt).2.2
         go_wp2_with fail
         clear qBa0 qBa1 qBb0 qBb1 qBx0 qBx1 qBo0 qBo1
         clear qE0 qE1 qE2
         refine (implWorkEndO x_t88 o_t88 hfR hfo (by omega) (by simp)).mono ?_
         rw [HEE.out.1, HEE.out.2.1, HEE.out.2.2]
         rintro e w6 ⟨Vt, rfl, t_n, hb6⟩
         obtain ⟨adt, ct, rfl, ry1_t, ry2_t, ry3_t⟩ := t_n.read
         clear ry1_t ry2_t ry3_t
         have a_t90 := a_t88.next hb6
         clear a_t88
         have b_t90 := b_t88.next hb6
         clear b_t88
         have x_t90 := x_t88.next hb6
         clear x_t88
         have o_t90 := o_t88.next hb6
         clear o_t88
         have Ba_t90 := Ba_t88.next hb6
         clear Ba_t88
         have Bb_t90 := Bb_t88.next hb6
         clear Bb_t88
         have Bx_t90 := Bx_t88.next hb6
         clear Bx_t88
         have Bo_t90 := Bo_t88.next hb6
         clear Bo_t88
         have hw_t90 := below_next hw_t88 hb6
         have hs_t90 := hb6.size
         have lw0_t91 := below_next lw0_t89 hb6
         have hb_t92 := below_alloc (Below.refl _ w6) (.cells #[.int .i64 EZ, .slice adt EL.length ct] 34)
         have Bt_t92 := blkA w6 #[.int .i64 EZ, .slice adt EL.length ct] 34
         have hz_t92 : (w6.alloc (.cells #[.int .i64 EZ, .slice adt EL.length ct] 34)).heap.size = w6.heap.size + 1 := World.size_alloc _ _
         have a_t93 := a_t90.next hb_t92
         clear a_t90
         have b_t93 := b_t90.next hb_t92
         clear b_t90
         have x_t93 := x_t90.next hb_t92
         clear x_t90
         have o_t93 := o_t90.next hb_t92
         clear o_t90
         have t_t93 := t_n.next hb_t92
         clear t_n
         have Ba_t93 := Ba_t90.next hb_t92
         clear Ba_t90
         have Bb_t93 := Bb_t90.next hb_t92
         clear Bb_t90
         have Bx_t93 := Bx_t90.next hb_t92
         clear Bx_t90
         have Bo_t93 := Bo_t90.next hb_t92
         clear Bo_t90
         have hw_t93 := below_next hw_t90 hb_t92
         have hs_t93 := hb_t92.size
         have lw0_t94 := below_next lw0_t91 hb_t92
         clear t_t93
         have qBa0 : (w6.alloc (.cells #[.int .i64 EZ, .slice adt EL.length ct] 34)).cell? ⟨w1.heap.size, 0, none⟩ = some (.int .i64 za) := by rw [Ba_t93.cell]; rfl
         have qBa1 : (w6.alloc (.cells #[.int .i64 EZ, .slice adt EL.length ct] 34)).cell? ⟨w1.heap.size, 1, none⟩ = some (.slice ada la.length ca) := by rw [Ba_t93.cell]; rfl
         have qBb0 : (w6.alloc (.cells #[.int .i64 EZ, .slice adt EL.length ct] 34)).cell? ⟨w1.heap.size + 1, 0, none⟩ = some (.int .i64 ab) := by rw [Bb_t93.cell]; rfl
         have qBb1 : (w6.alloc (.cells #[.int .i64 EZ, .slice adt EL.length ct] 34)).cell? ⟨w1.heap.size + 1, 1, none⟩ = some (.slice (some ⟨ebE, eoE, none⟩) lb.length cb) := by rw [Bb_t93.cell]; rfl
         have qBx0 : (w6.alloc (.cells #[.int .i64 EZ, .slice adt EL.length ct] 34)).cell? ⟨w2.heap.size, 0, none⟩ = some (.int .i64 RZ) := by rw [Bx_t93.cell]; rfl
         have qBx1 : (w6.alloc (.cells #[.int .i64 EZ, .slice adt EL.length ct] 34)).cell? ⟨w2.heap.size, 1, none⟩ = some (.slice adx RL.length cx) := by rw [Bx_t93.cell]; rfl
         have qBo0 : (w6.alloc (.cells #[.int .i64 EZ, .slice adt EL.length ct] 34)).cell? ⟨go, 0, none⟩ = some (.int .i64 za) := by rw [Bo_t93.cell]; rfl
         have qBo1 : (w6.alloc (.cells #[.int .i64 EZ, .slice adt EL.length ct] 34)).cell? ⟨go, 1, none⟩ = some (.slice (some ⟨bs, 0, none⟩) 1 1) := by rw [Bo_t93.cell]; rfl
         have qBt0 : (w6.alloc (.cells #[.int .i64 EZ, .slice adt EL.length ct] 34)).cell? ⟨w6.heap.size, 0, none⟩ = some (.int .i64 EZ) := by rw [Bt_t92.cell]; rfl
         have qBt1 : (w6.alloc (.cells #[.int .i64 EZ, .slice adt EL.length ct] 34)).cell? ⟨w6.heap.size, 1, none⟩ = some (.slice adt EL.length ct) := by rw [Bt_t92.cell]; rfl
         have qE0 : (w6.alloc (.cells #[.int .i64 EZ, .slice adt EL.length ct] 34)).cell? ⟨ebE, eoE + k * 3, none⟩ = some (.string lb[k].k) := ((b_t93.rd'.2.2.2).fixX rfl hlt).1
         have qE1 : (w6.alloc (.cells #[.int .i64 EZ, .slice adt EL.length ct] 34)).cell? ⟨ebE, eoE + k * 3 + 1, none⟩ = some (.int .i64 lb[k].n) := ((b_t93.rd'.2.2.2).fixX rfl hlt).2.1
         have qE2 : (w6.alloc (.cells #[.int .i64 EZ, .slice adt EL.length ct] 34)).cell? ⟨ebE, eoE + k * 3 + 2, none⟩ = some (.bool lb[k].g) := ((b_t93.rd'.2.2.2).fixX rfl hlt).2.2
         go_wp2_with fail
         clear qBa0 qBa1 qBb0 qBb1 qBx0 qBx1 qBo0 qBo1 qBt0 qBt1
         clear qE0 qE1 qE2
         refine (implWorkOkO x_t93 o_t93 hfR hfo (by omega) (by simp)).mono ?_
         rintro e w7 ⟨rfl, hb7⟩
         rw [HOB.out]
         have a_t95 := a_t93.next hb7
         clear a_t93
         have b_t95 := b_t93.next hb7
         clear b_t93
         have x_t95 := x_t93.next hb7
         clear x_t93
         have o_t95 := o_t93.next hb7
         clear o_t93
         have Ba_t95 := Ba_t93.next hb7
         clear Ba_t93
         have Bb_t95 := Bb_t93.next hb7
         clear Bb_t93
         have Bx_t95 := Bx_t93.next hb7
         clear Bx_t93
         have Bo_t95 := Bo_t93.next hb7
         clear Bo_t93
         have Bt_t95 := Bt_t92.next hb7
         clear Bt_t92
         have hw_t95 := below_next hw_t93 hb7
         have hs_t95 := hb7.size
         have lw0_t96 := below_next lw0_t94 hb7
         have qBa0 : w7.cell? ⟨w1.heap.size, 0, none⟩ = some (.int .i64 za) := by rw [Ba_t95.cell]; rfl
         have qBa1 : w7.cell? ⟨w1.heap.size, 1, none⟩ = some (.slice ada la.length ca) := by rw [Ba_t95.cell]; rfl
         have qBb0 : w7.cell? ⟨w1.heap.size + 1, 0, none⟩ = some (.int .i64 ab) := by rw [Bb_t95.cell]; rfl
         have qBb1 : w7.cell? ⟨w1.heap.size + 1, 1, none⟩ = some (.slice (some ⟨ebE, eoE, none⟩) lb.length cb) := by rw [Bb_t95.cell]; rfl
         have qBx0 : w7.cell? ⟨w2.heap.size, 0, none⟩ = some (.int .i64 RZ) := by rw [Bx_t95.cell]; rfl
         have qBx1 : w7.cell? ⟨w2.heap.size, 1, none⟩ = some (.slice adx RL.length cx) := by rw [Bx_t95.cell]; rfl
         have qBo0 : w7.cell? ⟨go, 0, none⟩ = some (.int .i64 za) := by rw [Bo_t95.cell]; rfl
         have qBo1 : w7.cell? ⟨go, 1, none⟩ = some (.slice (some ⟨bs, 0, none⟩) 1 1) := by rw [Bo_t95.cell]; rfl
         have qBt0 : w7.cell? ⟨w6.heap.size, 0, none⟩ = some (.int .i64 EZ) := by rw [Bt_t95.cell]; rfl
         have qBt1 : w7.cell? ⟨w6.heap.size, 1, none⟩ = some (.slice adt EL.length ct) := by rw [Bt_t95.cell]; rfl
         have qE0 : w7.cell? ⟨ebE, eoE + k * 3, none⟩ = some (.string lb[k].k) := ((b_t95.rd'.2.2.2).fixX rfl hlt).1
         have qE1 : w7.cell? ⟨ebE, eoE + k * 3 + 1, none⟩ = some (.int .i64 lb[k].n) := ((b_t95.rd'.2.2.2).fixX rfl hlt).2.1
         have qE2 : w7.cell? ⟨ebE, eoE + k * 3 + 2, none⟩ = some (.bool lb[k].g) := ((b_t95.rd'.2.2.2).fixX rfl hlt).2.2
         go_wp2
         go_roundw
         case rel => exact ⟨k + 1, by omega, by go_num, lw0_t96⟩
         case measure => simp [intOf]; omega
       ·
        subst hgb
        have e := HLT.out rfl (.inl rfl)
        subst e
        have qBa0 : wc.cell? ⟨w1.heap.size, 0, none⟩ = some (.int .i64 za) := by rw [Ba_t81.cell]; rfl
        have qBa1 : wc.cell? ⟨w1.heap.size, 1, none⟩ = some (.slice ada la.length ca) := by rw [Ba_t81.cell]; rfl
        have qBb0 : wc.cell? ⟨w1.heap.size + 1, 0, none⟩ = some (.int .i64 ab) := by rw [Bb_t81.cell]; rfl
        have qBb1 : wc.cell? ⟨w1.heap.size + 1, 1, none⟩ = some (.slice (some ⟨ebE, eoE, none⟩) lb.length cb) := by rw [Bb_t81.cell]; rfl
        have qBx0 : wc.cell? ⟨w2.heap.size, 0, none⟩ = some (.int .i64 RZ) := by rw [Bx_t81.cell]; rfl
        have qBx1 : wc.cell? ⟨w2.heap.size, 1, none⟩ = some (.slice adx RL.length cx) := by rw [Bx_t81.cell]; rfl
        have qBo0 : wc.cell? ⟨go, 0, none⟩ = some (.int .i64 za) := by rw [Bo_n.cell]; rfl
        have qBo1 : wc.cell? ⟨go, 1, none⟩ = some (.slice (some ⟨bs, 0, none⟩) 1 1) := by rw [Bo_n.cell]; rfl
        have qE0 : wc.cell? ⟨ebE, eoE + k * 3, none⟩ = some (.string lb[k].k) := ((b_t81.rd'.2.2.2).fixX rfl hlt).1
        have qE1 : wc.cell? ⟨ebE, eoE + k * 3 + 1, none⟩ = some (.int .i64 lb[k].n) := ((b_t81.rd'.2.2.2).fixX rfl hlt).2.1
        have qE2 : wc.cell? ⟨ebE, eoE + k * 3 + 2, none⟩ = some (.bool lb[k].g) := ((b_t81.rd'.2.2.2).fixX rfl hlt).2.2
        go_wp2
        clear qBa0 qBa1 qBb0 qBb1 qBx0 qBx1 qBo0 qBo1
        clear qE0 qE1 qE2
        have hb_t83 : Below wc.heap.size wc wc.drew := (Below.refl _ _).drew
        have a_t84 := a_t81.next hb_t83
        clear a_t81
        have b_t84 := b_t81.next hb_t83
        clear b_t81
        have x_t84 := x_t81.next hb_t83
        clear x_t81
        have o_t84 := o_n.next hb_t83
        clear o_n
        have Ba_t84 := Ba_t81.next hb_t83
        clear Ba_t81
        have Bb_t84 := Bb_t81.next hb_t83
        clear Bb_t81
        have Bx_t84 := Bx_t81.next hb_t83
        clear Bx_t81
        have Bo_t84 := Bo_n.next hb_t83
        clear Bo_n
        have hw_t84 := below_next hw_t81 hb_t83
        have hs_t84 := hb_t83.size
        have lw0_t85 := below_next lw0_t82 hb_t83
        refine wp_region_held_drew (S := (fun W => W.cell? ⟨w1.heap.size, 0, none⟩ = some (.int .i64 za) ∧ W.cell? ⟨w1.heap.size, 1, none⟩ = some (.slice ada la.length ca) ∧ W.cell? ⟨w1.heap.size + 1, 0, none⟩ = some (.int .i64 ab) ∧ W.cell? ⟨w1.heap.size + 1, 1, none⟩ = some (.slice (some ⟨ebE, eoE, none⟩) lb.length cb) ∧ W.cell? ⟨w2.heap.size, 0, none⟩ = some (.int .i64 RZ) ∧ W.cell? ⟨w2.heap.size, 1, none⟩ = some (.slice adx RL.length cx) ∧ W.cell? ⟨go, 0, none⟩ = some (.int .i64 za) ∧ W.cell? ⟨go, 1, none⟩ = some (.slice (some ⟨bs, 0, none⟩) 1 1) ∧ W.cell? ⟨ebE, eoE + k * 3, none⟩ = some (.string lb[k].k) ∧ W.cell? ⟨ebE, eoE + k * 3 + 1, none⟩ = some (.int .i64 lb[k].n) ∧ W.cell? ⟨ebE, eoE + k * 3 + 2, none⟩ = some (.bool lb[k].g))) (by kernel_rfl) ?_ (fun hHeld => ?_)
        focus ((try dsimp only); (exact ⟨by rw [Ba_t84.cell]; rfl, by rw [Ba_t84.cell]; rfl, by rw [Bb_t84.cell]; rfl, by rw [Bb_t84.cell]; rfl, by rw [Bx_t84.cell]; rfl, by rw [Bx_t84.cell]; rfl, by rw [Bo_t84.cell]; rfl, by rw [Bo_t84.cell]; rfl, ((b_t84.rd'.2.2.2).fixX rfl hlt).1, ((b_t84.rd'.2.2.2).fixX rfl hlt).2.1, ((b_t84.rd'.2.2.2).fixX rfl hlt).2.2⟩))
        refine tk 0 ?_
        refine tk 1 ?_
        refine tk 2 ?_
        refine tk 4 ?_
        refine tk 5 ?_
        refine tk 6 ?_
        refine tk 7 ?_
        refine tk 8 ?_
        refine tk 9 ?_
        (refine rd1 3 (fun K hK => ?_); go_simp; (go_at_call 49; refine (implVersAtO za a_t84 hfa (by omega)).mono ?_; rw [HR1.out]; rintro e w4 ⟨Vr, rfl, r_n, hb4⟩; obtain ⟨adr, cr, rfl, ry1_r, ry2_r, ry3_r⟩ := r_n.read; clear ry1_r ry2_r ry3_r; have a_t86 := a_t84.next hb4; clear a_t84; have b_t86 := b_t84.next hb4; clear b_t84; have x_t86 := x_t84.next hb4; clear x_t84; have o_t86 := o_t84.next hb4; clear o_t84; have Ba_t86 := Ba_t84.next hb4; clear Ba_t84; have Bb_t86 := Bb_t84.next hb4; clear Bb_t84; have Bx_t86 := Bx_t84.next hb4; clear Bx_t84; have Bo_t86 := Bo_t84.next hb4; clear Bo_t84; have hw_t86 := below_next hw_t84 hb4; have hs_t86 := hb4.size; have lw0_t87 := below_next lw0_t85 hb4); go_wp2_with fail; refine hK.out _ _ ?_ (fun hHeld => ?_); (focus ((try dsimp only); (exact ⟨by rw [Ba_t86.cell]; rfl, by rw [Ba_t86.cell]; rfl, by rw [Bb_t86.cell]; rfl, by rw [Bb_t86.cell]; rfl, by rw [Bx_t86.cell]; rfl, by rw [Bx_t86.cell]; rfl, by rw [Bo_t86.cell]; rfl, by rw [Bo_t86.cell]; rfl, ((b_t86.rd'.2.2.2).fixX rfl hlt).1, ((b_t86.rd'.2.2.2).fixX rfl hlt).2.1, ((b_t86.rd'.2.2.2).fixX rfl hlt).2.2⟩))); clear hK K; (try simp only [Act.put, pa, pb, pc]))
        (refine rd1 10 (fun K hK => ?_); go_simp; (go_at_call 41; refine (implGetO lb[k].k r_n hf_R1 (by omega)).mono ?_; rintro e w5 ⟨rfl, hb5⟩; rw [HG.out.1, HG.out.2]; have a_t88 := a_t86.next hb5; clear a_t86; have b_t88 := b_t86.next hb5; clear b_t86; have x_t88 := x_t86.next hb5; clear x_t86; have o_t88 := o_t86.next hb5; clear o_t86; have r_t88 := r_n.next hb5; clear r_n; have Ba_t88 := Ba_t86.next hb5; clear Ba_t86; have Bb_t88 := Bb_t86.next hb5; clear Bb_t86; have Bx_t88 := Bx_t86.next hb5; clear Bx_t86; have Bo_t88 := Bo_t86.next hb5; clear Bo_t86; have hw_t88 := below_next hw_t86 hb5; have hs_t88 := hb5.size; have lw0_t89 := below_next lw0_t87 hb5); go_wp2_with fail; refine hK.out _ _ ?_ (fun hHeld => ?_); (focus ((try dsimp only); (exact ⟨by rw [Ba_t88.cell]; rfl, by rw [Ba_t88.cell]; rfl, by rw [Bb_t88.cell]; rfl, by rw [Bb_t88.cell]; rfl, by rw [Bx_t88.cell]; rfl, by rw [Bx_t88.cell]; rfl, by rw [Bo_t88.cell]; rfl, by rw [Bo_t88.cell]; rfl, ((b_t88.rd'.2.2.2).fixX rfl hlt).1, ((b_t88.rd'.2.2.2).fixX rfl hlt).2.1, ((b_t88.rd'.2.2.2).fixX rfl hlt).2.2⟩))); clear hK K; (try simp only [Act.put, pa, pb, pc]))
        refine tk 11 ?_
        refine tk 12 ?_
        refine tk 13 ?_
        refine tk 14 ?_
        refine tk 15 ?_
        refine wpAnyH_done (by kernel_rfl) ?_ _
        clear r_t88
        have qBa0 : w5.cell? ⟨w1.heap.size, 0, none⟩ = some (.int .i64 za) := by rw [Ba_t88.cell]; rfl
        have qBa1 : w5.cell? ⟨w1.heap.size, 1, none⟩ = some (.slice ada la.length ca) := by rw [Ba_t88.cell]; rfl
        have qBb0 : w5.cell? ⟨w1.heap.size + 1, 0, none⟩ = some (.int .i64 ab) := by rw [Bb_t88.cell]; rfl
        have qBb1 : w5.cell? ⟨w1.heap.size + 1, 1, none⟩ = some (.slice (some ⟨ebE, eoE, none⟩) lb.length cb) := by rw [Bb_t88.cell]; rfl
        have qBx0 : w5.cell? ⟨w2.heap.size, 0, none⟩ = some (.int .i64 RZ) := by rw [Bx_t88.cell]; rfl
        have qBx1 : w5.cell? ⟨w2.heap.size, 1, none⟩ = some (.slice adx RL.length cx) := by rw [Bx_t88.cell]; rfl
        have qBo0 : w5.cell? ⟨go, 0, none⟩ = some (.int .i64 za) := by rw [Bo_t88.cell]; rfl
        have qBo1 : w5.cell? ⟨go, 1, none⟩ = some (.slice (some ⟨bs, 0, none⟩) 1 1) := by rw [Bo_t88.cell]; rfl
        have qE0 : w5.cell? ⟨ebE, eoE + k * 3, none⟩ = some (.string lb[k].k) := ((b_t88.rd'.2.2.2).fixX rfl hlt).1
        have qE1 : w5.cell? ⟨ebE, eoE + k * 3 + 1, none⟩ = some (.int .i64 lb[k].n) := ((b_t88.rd'.2.2.2).fixX rfl hlt).2.1
        have qE2 : w5.cell? ⟨ebE, eoE + k * 3 + 2, none⟩ = some (.bool lb[k].g) := ((b_t88.rd'.2.2.2).fixX rfl hlt).2.2
        go_wp2_with fail
        clear qBa0 qBa1 qBb0 qBb1 qBx0 qBx1 qBo0 qBo1
        clear qE0 qE1 qE2
        refine (implWorkEndO x_t88 o_t88 hfR hfo (by omega) (by simp)).mono ?_
        rw [HEE.out.1, HEE.out.2.1, HEE.out.2.2]
        rintro e w6 ⟨Vt, rfl, t_n, hb6⟩
        obtain ⟨adt, ct, rfl, ry1_t, ry2_t, ry3_t⟩ := t_n.read
        clear ry1_t ry2_t ry3_t
        have a_t90 := a_t88.next hb6
        clear a_t88
        have b_t90 := b_t88.next hb6
        clear b_t88
        have x_t90 := x_t88.next hb6
        clear x_t88
        have o_t90 := o_t88.next hb6
        clear o_t88
        have Ba_t90 := Ba_t88.next hb6
        clear Ba_t88
        have Bb_t90 := Bb_t88.next hb6
        clear Bb_t88
        have Bx_t90 := Bx_t88.next hb6
        clear Bx_t88
        have Bo_t90 := Bo_t88.next hb6
        clear Bo_t88
        have hw_t90 := below_next hw_t88 hb6
        have hs_t90 := hb6.size
        have lw0_t91 := below_next lw0_t89 hb6
        have hb_t92 := below_alloc (Below.refl _ w6) (.cells #[.int .i64 EZ, .slice adt EL.length ct] 34)
        have Bt_t92 := blkA w6 #[.int .i64 EZ, .slice adt EL.length ct] 34
        have hz_t92 : (w6.alloc (.cells #[.int .i64 EZ, .slice adt EL.length ct] 34)).heap.size = w6.heap.size + 1 := World.size_alloc _ _
        have a_t93 := a_t90.next hb_t92
        clear a_t90
        have b_t93 := b_t90.next hb_t92
        clear b_t90
        have x_t93 := x_t90.next hb_t92
        clear x_t90
        have o_t93 := o_t90.next hb_t92
        clear o_t90
        have t_t93 := t_n.next hb_t92
        clear t_n
        have Ba_t93 := Ba_t90.next hb_t92
        clear Ba_t90
        have Bb_t93 := Bb_t90.next hb_t92
        clear Bb_t90
        have Bx_t93 := Bx_t90.next hb_t92
        clear Bx_t90
        have Bo_t93 := Bo_t90.next hb_t92
        clear Bo_t90
        have hw_t93 := below_next hw_t90 hb_t92
        have hs_t93 := hb_t92.size
        have lw0_t94 := below_next lw0_t91 hb_t92
        clear t_t93
        have qBa0 : (w6.alloc (.cells #[.int .i64 EZ, .slice adt EL.length ct] 34)).cell? ⟨w1.heap.size, 0, none⟩ = some (.int .i64 za) := by rw [Ba_t93.cell]; rfl
        have qBa1 : (w6.alloc (.cells #[.int .i64 EZ, .slice adt EL.length ct] 34)).cell? ⟨w1.heap.size, 1, none⟩ = some (.slice ada la.length ca) := by rw [Ba_t93.cell]; rfl
        have qBb0 : (w6.alloc (.cells #[.int .i64 EZ, .slice adt EL.length ct] 34)).cell? ⟨w1.heap.size + 1, 0, none⟩ = some (.int .i64 ab) := by rw [Bb_t93.cell]; rfl
        have qBb1 : (w6.alloc (.cells #[.int .i64 EZ, .slice adt EL.length ct] 34)).cell? ⟨w1.heap.size + 1, 1, none⟩ = some (.slice (some ⟨ebE, eoE, none⟩) lb.length cb) := by rw [Bb_t93.cell]; rfl
        have qBx0 : (w6.alloc (.cells #[.int .i64 EZ, .slice adt EL.length ct] 34)).cell? ⟨w2.heap.size, 0, none⟩ = some (.int .i64 RZ) := by rw [Bx_t93.cell]; rfl
        have qBx1 : (w6.alloc (.cells #[.int .i64 EZ, .slice adt EL.length ct] 34)).cell? ⟨w2.heap.size, 1, none⟩ = some (.slice adx RL.length cx) := by rw [Bx_t93.cell]; rfl
        have qBo0 : (w6.alloc (.cells #[.int .i64 EZ, .slice adt EL.length ct] 34)).cell? ⟨go, 0, none⟩ = some (.int .i64 za) := by rw [Bo_t93.cell]; rfl
        have qBo1 : (w6.alloc (.cells #[.int .i64 EZ, .slice adt EL.length ct] 34)).cell? ⟨go, 1, none⟩ = some (.slice (some ⟨bs, 0, none⟩) 1 1) := by rw [Bo_t93.cell]; rfl
        have qBt0 : (w6.alloc (.cells #[.int .i64 EZ, .slice adt EL.length ct] 34)).cell? ⟨w6.heap.size, 0, none⟩ = some (.int .i64 EZ) := by rw [Bt_t92.cell]; rfl
        have qBt1 : (w6.alloc (.cells #[.int .i64 EZ, .slice adt EL.length ct] 34)).cell? ⟨w6.heap.size, 1, none⟩ = some (.slice adt EL.length ct) := by rw [Bt_t92.cell]; rfl
        have qE0 : (w6.alloc (.cells #[.int .i64 EZ, .slice adt EL.length ct] 34)).cell? ⟨ebE, eoE + k * 3, none⟩ = some (.string lb[k].k) := ((b_t93.rd'.2.2.2).fixX rfl hlt).1
        have qE1 : (w6.alloc (.cells #[.int .i64 EZ, .slice adt EL.length ct] 34)).cell? ⟨ebE, eoE + k * 3 + 1, none⟩ = some (.int .i64 lb[k].n) := ((b_t93.rd'.2.2.2).fixX rfl hlt).2.1
        have qE2 : (w6.alloc (.cells #[.int .i64 EZ, .slice adt EL.length ct] 34)).cell? ⟨ebE, eoE + k * 3 + 2, none⟩ = some (.bool lb[k].g) := ((b_t93.rd'.2.2.2).fixX rfl hlt).2.2
        go_wp2_with fail
        clear qBa0 qBa1 qBb0 qBb1 qBx0 qBx1 qBo0 qBo1 qBt0 qBt1
        clear qE0 qE1 qE2
        refine (implWorkOkO x_t93 o_t93 hfR hfo (by omega) (by simp)).mono ?_
        rintro e w7 ⟨rfl, hb7⟩
        rw [HOB.out]
        have a_t95 := a_t93.next hb7
        clear a_t93
        have b_t95 := b_t93.next hb7
        clear b_t93
        have x_t95 := x_t93.next hb7
        clear x_t93
        have o_t95 := o_t93.next hb7
        clear o_t93
        have Ba_t95 := Ba_t93.next hb7
        clear Ba_t93
        have Bb_t95 := Bb_t93.next hb7
        clear Bb_t93
        have Bx_t95 := Bx_t93.next hb7
        clear Bx_t93
        have Bo_t95 := Bo_t93.next hb7
        clear Bo_t93
        have Bt_t95 := Bt_t92.next hb7
        clear Bt_t92
        have hw_t95 := below_next hw_t93 hb7
        have hs_t95 := hb7.size
        have lw0_t96 := below_next lw0_t94 hb7
        have qBa0 : w7.cell? ⟨w1.heap.size, 0, none⟩ = some (.int .i64 za) := by rw [Ba_t95.cell]; rfl
        have qBa1 : w7.cell? ⟨w1.heap.size, 1, none⟩ = some (.slice ada la.length ca) := by rw [Ba_t95.cell]; rfl
        have qBb0 : w7.cell? ⟨w1.heap.size + 1, 0, none⟩ = some (.int .i64 ab) := by rw [Bb_t95.cell]; rfl
        have qBb1 : w7.cell? ⟨w1.heap.size + 1, 1, none⟩ = some (.slice (some ⟨ebE, eoE, none⟩) lb.length cb) := by rw [Bb_t95.cell]; rfl
        have qBx0 : w7.cell? ⟨w2.heap.size, 0, none⟩ = some (.int .i64 RZ) := by rw [Bx_t95.cell]; rfl
        have qBx1 : w7.cell? ⟨w2.heap.size, 1, none⟩ = some (.slice adx RL.length cx) := by rw [Bx_t95.cell]; rfl
        have qBo0 : w7.cell? ⟨go, 0, none⟩ = some (.int .i64 za) := by rw [Bo_t95.cell]; rfl
        have qBo1 : w7.cell? ⟨go, 1, none⟩ = some (.slice (some ⟨bs, 0, none⟩) 1 1) := by rw [Bo_t95.cell]; rfl
        have qBt0 : w7.cell? ⟨w6.heap.size, 0, none⟩ = some (.int .i64 EZ) := by rw [Bt_t95.cell]; rfl
        have qBt1 : w7.cell? ⟨w6.heap.size, 1, none⟩ = some (.slice adt EL.length ct) := by rw [Bt_t95.cell]; rfl
        have qE0 : w7.cell? ⟨ebE, eoE + k * 3, none⟩ = some (.string lb[k].k) := ((b_t95.rd'.2.2.2).fixX rfl hlt).1
        have qE1 : w7.cell? ⟨ebE, eoE + k * 3 + 1, none⟩ = some (.int .i64 lb[k].n) := ((b_t95.rd'.2.2.2).fixX rfl hlt).2.1
        have qE2 : w7.cell? ⟨ebE, eoE + k * 3 + 2, none⟩ = some (.bool lb[k].g) := ((b_t95.rd'.2.2.2).fixX rfl hlt).2.2
        go_wp2
        go_roundw
        case rel => exact ⟨k + 1, by omega, by go_num, lw0_t96⟩
        case measure => simp [intOf]; omega
    ·
     have hkI : decide ((k : Int) < (lb.length : Int)) = false := decide_eq_false (by omega)
     have qBa0 : wr.cell? ⟨w1.heap.size, 0, none⟩ = some (.int .i64 za) := by rw [Ba_t19.cell]; rfl
     have qBa1 : wr.cell? ⟨w1.heap.size, 1, none⟩ = some (.slice ada la.length ca) := by rw [Ba_t19.cell]; rfl
     have qBb0 : wr.cell? ⟨w1.heap.size + 1, 0, none⟩ = some (.int .i64 ab) := by rw [Bb_t19.cell]; rfl
     have qBb1 : wr.cell? ⟨w1.heap.size + 1, 1, none⟩ = some (.slice adb lb.length cb) := by rw [Bb_t19.cell]; rfl
     have qBx0 : wr.cell? ⟨w2.heap.size, 0, none⟩ = some (.int .i64 RZ) := by rw [Bx_t19.cell]; rfl
     have qBx1 : wr.cell? ⟨w2.heap.size, 1, none⟩ = some (.slice adx RL.length cx) := by rw [Bx_t19.cell]; rfl
     go_wp2
     go_ret
     exact ⟨rfl, hw_t19⟩
 ·
  have hn1_RC : (RC == 0) = false := by simp; exact hc
  have hn2_RC : (RC != 0) = true := by simp; exact hc
  have qBa0 : (w3.alloc (.cells #[.int .i64 RZ, .slice ady RL.length cy] 34)).cell? ⟨w1.heap.size, 0, none⟩ = some (.int .i64 za) := by rw [Ba_t17.cell]; rfl
  have qBa1 : (w3.alloc (.cells #[.int .i64 RZ, .slice ady RL.length cy] 34)).cell? ⟨w1.heap.size, 1, none⟩ = some (.slice ada la.length ca) := by rw [Ba_t17.cell]; rfl
  have qBb0 : (w3.alloc (.cells #[.int .i64 RZ, .slice ady RL.length cy] 34)).cell? ⟨w1.heap.size + 1, 0, none⟩ = some (.int .i64 ab) := by rw [Bb_t17.cell]; rfl
  have qBb1 : (w3.alloc (.cells #[.int .i64 RZ, .slice ady RL.length cy] 34)).cell? ⟨w1.heap.size + 1, 1, none⟩ = some (.slice adb lb.length cb) := by rw [Bb_t17.cell]; rfl
  have qBx0 : (w3.alloc (.cells #[.int .i64 RZ, .slice ady RL.length cy] 34)).cell? ⟨w2.heap.size, 0, none⟩ = some (.int .i64 RZ) := by rw [Bx_t17.cell]; rfl
  have qBx1 : (w3.alloc (.cells #[.int .i64 RZ, .slice ady RL.length cy] 34)).cell? ⟨w2.heap.size, 1, none⟩ = some (.slice adx RL.length cx) := by rw [Bx_t17.cell]; rfl
  go_wp2
  go_ret
  exact ⟨rfl, hw_t17⟩

set_option maxRecDepth 100000 in
theorem lifted (os : Os) (started : os.Started) (H : Type) (enc : TypeId × Value → H) :
  ReturnsInHanded {} Tryz.checked os 9 .any (Rows.fnWorkLateSpec.pre6 enc Tryz.prog Tryz.f9 Rows.fnWorkLateRow.domain false) (Rows.fnWorkLateSpec.post enc Tryz.prog Tryz.f9 false true false false) := by
 refine returnsInHanded_of_change (C := Tryz.checked) Whole.own started (by kernel_rfl) Tryz.func9
  (ChangeSpec.witness6 (enc := enc) (C := Tryz.checked) false ⟨#[], #[.slice none 0 0], []⟩ 8 (by kernel_rfl) (by kernel_rfl) (by kernel_rfl) (by kernel_rfl)) ?_
 intro W base args ds gs before hval0 hW hcnd _
 have hval : ∀ (j : Nat) t v, Tryz.f9.params[j]? = some t → args[j]? = some v → Value.okWide Tryz.prog W .any base t v := hval0
 have hW' := hW
 obtain ⟨p, q, hA0, hV, rfl, hfz, hnd⟩ := hW
 have hA : DataW.TrodAll enc Tryz.prog W 0 (fun _ => true) true Tryz.f9.params.toList args.toList ds p := hA0
 rw [Tryz.params9] at hA hval
 obtain ⟨v0, vs0, d0, ds0, p0, q0, hargs, rfl, rfl, h0, r0⟩ := trodAll_cons hA
 obtain ⟨rfl, rfl, rfl⟩ := trodAll_nil r0
 obtain rfl : args = #[v0] := by cases args; simp_all
 obtain ⟨rfl, rfl⟩ := trodVars_none hV
 have k0 := h0
 have lt0 : ∀ x ∈ p0, x.block < W.heap.size := by obtain ⟨m, hm⟩ := k0; exact DataW.trod_lt m _ _ _ hm
 obtain ⟨A0, n0, c0, rfl, hc0, hm0, hr0⟩ := openBytes (hval 0 57 v0 rfl rfl) h0
 clear hA0 hval0
 refine (walk A0 n0 c0 W hc0 hm0 hr0).mono fun e W' ⟨he, bel⟩ => ?_
 subst he
 exact ⟨_, rfl, _, _, _, [], _, [], hW', trodAll_mk1 (shut_bool Tryz.underlying4 _), (trodAll_cons_mk (Below.trod Whole.laidOut (by kernel_rfl) (of_decide_eq_true (by kernel_rfl)) k0 bel lt0) trodAll_mk0), rfl, bel.frame _, fun h => by cases h⟩

theorem named : Tryz.prog.funcNamed Rows.fnWorkLateRow.func = some 9 := by kernel_rfl
theorem closed : Whole.lawFacts Tryz.prog 9 Tryz.f9 Rows.fnWorkLateSpec Rows.fnWorkLateRow = true := by kernel_rfl
theorem inst : Tryz.f9.isInstance Tryz.prog Rows.fnWorkLateRow.origin Rows.fnWorkLateRow.targs := of_decide_eq_true (by kernel_rfl)
theorem wrap : Tryz.f9.isWrapper Tryz.prog Rows.fnWorkLateRow.wrapper Rows.fnWorkLateRow.mainSum := by
 unfold Func.isWrapper; first | (rw [if_pos (by decide +kernel)]; kernel_rfl) | (rw [if_neg (by decide +kernel)]; exact ⟨rfl, rfl⟩)
theorem over : Rows.fnWorkLateRow.holds Tryz.pinned (OpenSpec.ofChange Rows.fnWorkLateSpec) :=
 OpenClaim.holds_of_wide 9 Tryz.f9 rfl rfl rfl rfl rfl rfl rfl ⟨rfl, rfl, rfl, rfl, rfl⟩ rfl rfl rfl rfl rfl named Tryz.func9 (Whole.facts_of closed)
  inst wrap (fun os started H enc _ => lifted os started H enc)

theorem proved : Rows.FnWorkLateSaid := over
#print axioms proved
end Go.Proofs.YtbeklnhngjmpiaaGreat.fnWorkLate
