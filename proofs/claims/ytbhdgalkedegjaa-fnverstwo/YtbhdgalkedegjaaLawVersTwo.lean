/- The law FnVersTwo: for every two codes that are drawn from, what is done at two times is done one behind the other: the rows in between are those behind the first, and the history grows by no more than what was done: for all inputs the call returns true, and the arguments read afterwards as before. No conditions. -/
import Derived.Test.YtbhdgalkedegjaaRows
import Derived.Test.YtbhdgalkedegjaaWhole
import Derived.Test.YtbhdgalkedegjaaA1
import Derived.Test.YtbhdgalkedegjaaDv5
import Derived.Test.YtbhdgalkedegjaaM2d
import Derived.Test.YtbhdgalkedegjaaS2s
import Derived.Test.YtbhdgalkedegjaaA4
import Derived.WalkKit
import Derived.ProofKit
import Derived.OpenShut
import Derived.ShutString
import Derived.ChangeOld
import Derived.Below
namespace Go.Proofs.Ytbhdgalkedegjaa.fnVersTwo
open Go.ChangeShapes Go.WideShapes Go.ChangeAt Go.RowKit
open Go.ChangeMaps (open_string shut_string)
set_option linter.unusedVariables false

set_option maxRecDepth 100000 in
set_option maxHeartbeats 1000000 in
theorem walk (A0 : Option Addr) (n0 c0 : Nat) (A1 : Option Addr) (n1 c1 : Nat) (w : World) (hc0 : n0 ≤ c0) (hm0 : c0 ≤ maxLen) (hr0 : RdB w w.heap.size A0 n0) (hc1 : n1 ≤ c1) (hm1 : c1 ≤ maxLen) (hr1 : RdB w w.heap.size A1 n1) :
    Calls Try.prog 16 #[.slice A0 n0 c0, .slice A1 n1 c1] w fun e w' => e = .returned (.bool true) ∧ Below w.heap.size w w' := by
  by_cases hn_n0 : (1048576 : Int) < (n0 : Int)
  · go_enter Try.func16, Try.ntmps16
    go_wp2
    go_ret
    exact ⟨rfl, Below.refl _ _⟩
  by_cases hn_n1 : (1048576 : Int) < (n1 : Int)
  · go_enter Try.func16, Try.ntmps16
    go_wp2
    go_ret
    exact ⟨rfl, Below.refl _ _⟩
  go_enter Try.func16, Try.ntmps16
  go_wp2_with fail
  refine (drawVersDo A0 n0 c0 w hc0 hm0 hr0).mono ?_
  rintro e w1 ⟨za, Va, la, Ua, xa, rfl, a_n, hfa, hza, hla, ua_n, hfxa, hlxa, hb1⟩
  obtain ⟨ada, ca, rfl, ry1_a, ry2_a, ry3_a⟩ := a_n.read
  clear ry1_a ry2_a ry3_a
  obtain ⟨adua, cua, rfl, ry1_ua, ry2_ua, ry3_ua⟩ := ua_n.read
  clear ry1_ua ry2_ua ry3_ua
  have hw_t1 := hb1
  have hs_t1 := hb1.size
  have hb_t3 := below_alloc (Below.refl _ w1) (.cells #[.int .i64 za, .slice ada la.length ca] 29)
  have Ba_t3 := blkA w1 #[.int .i64 za, .slice ada la.length ca] 29
  have hz_t3 : (w1.alloc (.cells #[.int .i64 za, .slice ada la.length ca] 29)).heap.size = w1.heap.size + 1 := World.size_alloc _ _
  have a_t4 := a_n.next hb_t3
  clear a_n
  have ua_t4 := ua_n.next hb_t3
  clear ua_n
  have hw_t4 := below_next hw_t1 hb_t3
  have hs_t4 := hb_t3.size
  have qBa0 : (w1.alloc (.cells #[.int .i64 za, .slice ada la.length ca] 29)).cell? ⟨w1.heap.size, 0, none⟩ = some (.int .i64 za) := by rw [Ba_t3.cell]; rfl
  have qBa1 : (w1.alloc (.cells #[.int .i64 za, .slice ada la.length ca] 29)).cell? ⟨w1.heap.size, 1, none⟩ = some (.slice ada la.length ca) := by rw [Ba_t3.cell]; rfl
  go_wp2_with fail
  clear qBa0 qBa1
  refine (drawVersDo A1 n1 c1 _ hc1 hm1 (hr1.next hw_t4)).mono ?_
  rintro e w2 ⟨zb, Vb, lb, Ub, xb, rfl, b_n, hfb, hzb, hlb, ub_n, hfxb, hlxb, hb2⟩
  obtain ⟨adb, cb, rfl, ry1_b, ry2_b, ry3_b⟩ := b_n.read
  clear ry1_b ry2_b ry3_b
  obtain ⟨adub, cub, rfl, ry1_ub, ry2_ub, ry3_ub⟩ := ub_n.read
  clear ry1_ub ry2_ub ry3_ub
  have a_t6 := a_t4.next hb2
  clear a_t4
  have ua_t6 := ua_t4.next hb2
  clear ua_t4
  have Ba_t6 := Ba_t3.next hb2
  clear Ba_t3
  have hw_t6 := below_next hw_t4 hb2
  have hs_t6 := hb2.size
  have hb_t8 := below_alloc (Below.refl _ w2) (.cells #[.int .i64 zb, .slice adb lb.length cb] 29)
  have Bb_t8 := blkA w2 #[.int .i64 zb, .slice adb lb.length cb] 29
  have hz_t8 : (w2.alloc (.cells #[.int .i64 zb, .slice adb lb.length cb] 29)).heap.size = w2.heap.size + 1 := World.size_alloc _ _
  have a_t9 := a_t6.next hb_t8
  clear a_t6
  have ua_t9 := ua_t6.next hb_t8
  clear ua_t6
  have b_t9 := b_n.next hb_t8
  clear b_n
  have ub_t9 := ub_n.next hb_t8
  clear ub_n
  have Ba_t9 := Ba_t6.next hb_t8
  clear Ba_t6
  have hw_t9 := below_next hw_t6 hb_t8
  have hs_t9 := hb_t8.size
  have hdl := doL_len za la xa (by omega)
  obtain ⟨RZ, RL, RB, HRR⟩ : ∃ RZ RL RB, Hid (doZ za la xa = RZ ∧ doL za la xa = RL ∧ doB za la xa = RB) := ⟨_, _, _, Lib.hid ⟨rfl, rfl, rfl⟩⟩
  rw [HRR.out.2.1] at hdl
  have qBa0 : (w2.alloc (.cells #[.int .i64 zb, .slice adb lb.length cb] 29)).cell? ⟨w1.heap.size, 0, none⟩ = some (.int .i64 za) := by rw [Ba_t9.cell]; rfl
  have qBa1 : (w2.alloc (.cells #[.int .i64 zb, .slice adb lb.length cb] 29)).cell? ⟨w1.heap.size, 1, none⟩ = some (.slice ada la.length ca) := by rw [Ba_t9.cell]; rfl
  have qBb0 : (w2.alloc (.cells #[.int .i64 zb, .slice adb lb.length cb] 29)).cell? ⟨w2.heap.size, 0, none⟩ = some (.int .i64 zb) := by rw [Bb_t8.cell]; rfl
  have qBb1 : (w2.alloc (.cells #[.int .i64 zb, .slice adb lb.length cb] 29)).cell? ⟨w2.heap.size, 1, none⟩ = some (.slice adb lb.length cb) := by rw [Bb_t8.cell]; rfl
  go_wp2_with fail
  clear qBa0 qBa1 qBb0 qBb1
  refine (implVersDoO a_t9 ua_t9 hfa hfxa (by omega) (by omega)).mono ?_
  rw [HRR.out.1, HRR.out.2.1, HRR.out.2.2]
  rintro e w3 ⟨Vx, rfl, x_n, hb3⟩
  obtain ⟨adx, cx, rfl, ry1_x, ry2_x, ry3_x⟩ := x_n.read
  clear ry1_x ry2_x ry3_x
  have a_t11 := a_t9.next hb3
  clear a_t9
  have ua_t11 := ua_t9.next hb3
  clear ua_t9
  have b_t11 := b_t9.next hb3
  clear b_t9
  have ub_t11 := ub_t9.next hb3
  clear ub_t9
  have Ba_t11 := Ba_t9.next hb3
  clear Ba_t9
  have Bb_t11 := Bb_t8.next hb3
  clear Bb_t8
  have hw_t11 := below_next hw_t9 hb3
  have hs_t11 := hb3.size
  have hb_t13 := below_alloc (Below.refl _ w3) (.cells #[.int .i64 RZ, .slice adx RL.length cx] 29)
  have Bx_t13 := blkA w3 #[.int .i64 RZ, .slice adx RL.length cx] 29
  have hz_t13 : (w3.alloc (.cells #[.int .i64 RZ, .slice adx RL.length cx] 29)).heap.size = w3.heap.size + 1 := World.size_alloc _ _
  have a_t14 := a_t11.next hb_t13
  clear a_t11
  have ua_t14 := ua_t11.next hb_t13
  clear ua_t11
  have b_t14 := b_t11.next hb_t13
  clear b_t11
  have ub_t14 := ub_t11.next hb_t13
  clear ub_t11
  have x_t14 := x_n.next hb_t13
  clear x_n
  have Ba_t14 := Ba_t11.next hb_t13
  clear Ba_t11
  have Bb_t14 := Bb_t11.next hb_t13
  clear Bb_t11
  have hw_t14 := below_next hw_t11 hb_t13
  have hs_t14 := hb_t13.size
  have qBa0 : (w3.alloc (.cells #[.int .i64 RZ, .slice adx RL.length cx] 29)).cell? ⟨w1.heap.size, 0, none⟩ = some (.int .i64 za) := by rw [Ba_t14.cell]; rfl
  have qBa1 : (w3.alloc (.cells #[.int .i64 RZ, .slice adx RL.length cx] 29)).cell? ⟨w1.heap.size, 1, none⟩ = some (.slice ada la.length ca) := by rw [Ba_t14.cell]; rfl
  have qBb0 : (w3.alloc (.cells #[.int .i64 RZ, .slice adx RL.length cx] 29)).cell? ⟨w2.heap.size, 0, none⟩ = some (.int .i64 zb) := by rw [Bb_t14.cell]; rfl
  have qBb1 : (w3.alloc (.cells #[.int .i64 RZ, .slice adx RL.length cx] 29)).cell? ⟨w2.heap.size, 1, none⟩ = some (.slice adb lb.length cb) := by rw [Bb_t14.cell]; rfl
  have qBx0 : (w3.alloc (.cells #[.int .i64 RZ, .slice adx RL.length cx] 29)).cell? ⟨w3.heap.size, 0, none⟩ = some (.int .i64 RZ) := by rw [Bx_t13.cell]; rfl
  have qBx1 : (w3.alloc (.cells #[.int .i64 RZ, .slice adx RL.length cx] 29)).cell? ⟨w3.heap.size, 1, none⟩ = some (.slice adx RL.length cx) := by rw [Bx_t13.cell]; rfl
  go_wp2_with fail
  clear qBa0 qBa1 qBb0 qBb1 qBx0 qBx1
  refine (specVersDoO a_t14 ua_t14 hfa hfxa (by omega)).mono ?_
  rw [HRR.out.1, HRR.out.2.1, HRR.out.2.2]
  rintro e w4 ⟨Vy, rfl, y_n, hb4⟩
  obtain ⟨ady, cy, rfl, ry1_y, ry2_y, ry3_y⟩ := y_n.read
  clear ry1_y ry2_y ry3_y
  have a_t16 := a_t14.next hb4
  clear a_t14
  have ua_t16 := ua_t14.next hb4
  clear ua_t14
  have b_t16 := b_t14.next hb4
  clear b_t14
  have ub_t16 := ub_t14.next hb4
  clear ub_t14
  have x_t16 := x_t14.next hb4
  clear x_t14
  have Ba_t16 := Ba_t14.next hb4
  clear Ba_t14
  have Bb_t16 := Bb_t14.next hb4
  clear Bb_t14
  have Bx_t16 := Bx_t13.next hb4
  clear Bx_t13
  have hw_t16 := below_next hw_t14 hb4
  have hs_t16 := hb4.size
  have hb_t18 := below_alloc (Below.refl _ w4) (.cells #[.int .i64 RZ, .slice ady RL.length cy] 29)
  have By_t18 := blkA w4 #[.int .i64 RZ, .slice ady RL.length cy] 29
  have hz_t18 : (w4.alloc (.cells #[.int .i64 RZ, .slice ady RL.length cy] 29)).heap.size = w4.heap.size + 1 := World.size_alloc _ _
  have a_t19 := a_t16.next hb_t18
  clear a_t16
  have ua_t19 := ua_t16.next hb_t18
  clear ua_t16
  have b_t19 := b_t16.next hb_t18
  clear b_t16
  have ub_t19 := ub_t16.next hb_t18
  clear ub_t16
  have x_t19 := x_t16.next hb_t18
  clear x_t16
  have y_t19 := y_n.next hb_t18
  clear y_n
  have Ba_t19 := Ba_t16.next hb_t18
  clear Ba_t16
  have Bb_t19 := Bb_t16.next hb_t18
  clear Bb_t16
  have Bx_t19 := Bx_t16.next hb_t18
  clear Bx_t16
  have hw_t19 := below_next hw_t16 hb_t18
  have hs_t19 := hb_t18.size
  cases hc : RB
  · have qBa0 : (w4.alloc (.cells #[.int .i64 RZ, .slice ady RL.length cy] 29)).cell? ⟨w1.heap.size, 0, none⟩ = some (.int .i64 za) := by rw [Ba_t19.cell]; rfl
    have qBa1 : (w4.alloc (.cells #[.int .i64 RZ, .slice ady RL.length cy] 29)).cell? ⟨w1.heap.size, 1, none⟩ = some (.slice ada la.length ca) := by rw [Ba_t19.cell]; rfl
    have qBb0 : (w4.alloc (.cells #[.int .i64 RZ, .slice ady RL.length cy] 29)).cell? ⟨w2.heap.size, 0, none⟩ = some (.int .i64 zb) := by rw [Bb_t19.cell]; rfl
    have qBb1 : (w4.alloc (.cells #[.int .i64 RZ, .slice ady RL.length cy] 29)).cell? ⟨w2.heap.size, 1, none⟩ = some (.slice adb lb.length cb) := by rw [Bb_t19.cell]; rfl
    have qBx0 : (w4.alloc (.cells #[.int .i64 RZ, .slice ady RL.length cy] 29)).cell? ⟨w3.heap.size, 0, none⟩ = some (.int .i64 RZ) := by rw [Bx_t19.cell]; rfl
    have qBx1 : (w4.alloc (.cells #[.int .i64 RZ, .slice ady RL.length cy] 29)).cell? ⟨w3.heap.size, 1, none⟩ = some (.slice adx RL.length cx) := by rw [Bx_t19.cell]; rfl
    have qBy0 : (w4.alloc (.cells #[.int .i64 RZ, .slice ady RL.length cy] 29)).cell? ⟨w4.heap.size, 0, none⟩ = some (.int .i64 RZ) := by rw [By_t18.cell]; rfl
    have qBy1 : (w4.alloc (.cells #[.int .i64 RZ, .slice ady RL.length cy] 29)).cell? ⟨w4.heap.size, 1, none⟩ = some (.slice ady RL.length cy) := by rw [By_t18.cell]; rfl
    go_wp2
    go_ret
    exact ⟨rfl, hw_t19⟩
  · subst hc
    obtain ⟨p1, p2, p3, p4, p5⟩ := do_parts HRR.out.2.2
    have hzR : RZ = za + 1 := HRR.out.1.symm.trans p4
    have hfR : FitVs RL := by rw [← HRR.out.2.1]; exact FitVs.doL p1 hfa hfxa
    have hRl : RL.length ≤ 60 := by rw [← HRR.out.2.1, p5]; exact p3.len
    have HTW : Hid (∀ ns, doB RZ RL ns = true → doZ RZ RL ns = za + 2 ∧ versAt (za + 2) (doL RZ RL ns) RZ = versAt RZ RL RZ ∧ (doL RZ RL ns).length ≤ la.length + xa.length + ns.length) := Lib.hid fun ns hn => by
      have e : RL = doAll la xa (za + 1) := HRR.out.2.1.symm.trans p5
      subst hzR e
      exact two_do HRR.out.2.2 hn
    have hnow := p3.now
    have hnow0 := p1.now0
    clear p1 p2 p3 p4 p5
    subst hzR
    have hdl2 := doL_len (za + 1) RL xb (by omega)
    obtain ⟨SZ, SL, SB, HSS⟩ : ∃ SZ SL SB, Hid (doZ (za + 1) RL xb = SZ ∧ doL (za + 1) RL xb = SL ∧ doB (za + 1) RL xb = SB) := ⟨_, _, _, Lib.hid ⟨rfl, rfl, rfl⟩⟩
    rw [HSS.out.2.1] at hdl2
    have qBa0 : (w4.alloc (.cells #[.int .i64 (za + 1), .slice ady RL.length cy] 29)).cell? ⟨w1.heap.size, 0, none⟩ = some (.int .i64 za) := by rw [Ba_t19.cell]; rfl
    have qBa1 : (w4.alloc (.cells #[.int .i64 (za + 1), .slice ady RL.length cy] 29)).cell? ⟨w1.heap.size, 1, none⟩ = some (.slice ada la.length ca) := by rw [Ba_t19.cell]; rfl
    have qBb0 : (w4.alloc (.cells #[.int .i64 (za + 1), .slice ady RL.length cy] 29)).cell? ⟨w2.heap.size, 0, none⟩ = some (.int .i64 zb) := by rw [Bb_t19.cell]; rfl
    have qBb1 : (w4.alloc (.cells #[.int .i64 (za + 1), .slice ady RL.length cy] 29)).cell? ⟨w2.heap.size, 1, none⟩ = some (.slice adb lb.length cb) := by rw [Bb_t19.cell]; rfl
    have qBx0 : (w4.alloc (.cells #[.int .i64 (za + 1), .slice ady RL.length cy] 29)).cell? ⟨w3.heap.size, 0, none⟩ = some (.int .i64 (za + 1)) := by rw [Bx_t19.cell]; rfl
    have qBx1 : (w4.alloc (.cells #[.int .i64 (za + 1), .slice ady RL.length cy] 29)).cell? ⟨w3.heap.size, 1, none⟩ = some (.slice adx RL.length cx) := by rw [Bx_t19.cell]; rfl
    have qBy0 : (w4.alloc (.cells #[.int .i64 (za + 1), .slice ady RL.length cy] 29)).cell? ⟨w4.heap.size, 0, none⟩ = some (.int .i64 (za + 1)) := by rw [By_t18.cell]; rfl
    have qBy1 : (w4.alloc (.cells #[.int .i64 (za + 1), .slice ady RL.length cy] 29)).cell? ⟨w4.heap.size, 1, none⟩ = some (.slice ady RL.length cy) := by rw [By_t18.cell]; rfl
    go_wp2_with fail
    clear qBa0 qBa1 qBb0 qBb1 qBx0 qBx1 qBy0 qBy1
    refine (implVersDoO x_t19 ub_t19 hfR hfxb (by omega) (by omega)).mono ?_
    rw [HSS.out.1, HSS.out.2.1, HSS.out.2.2]
    rintro e w5 ⟨Vs, rfl, s_n, hb5⟩
    obtain ⟨ads, cs, rfl, ry1_s, ry2_s, ry3_s⟩ := s_n.read
    clear ry1_s ry2_s ry3_s
    have a_t21 := a_t19.next hb5
    clear a_t19
    have ua_t21 := ua_t19.next hb5
    clear ua_t19
    have b_t21 := b_t19.next hb5
    clear b_t19
    have ub_t21 := ub_t19.next hb5
    clear ub_t19
    have x_t21 := x_t19.next hb5
    clear x_t19
    have y_t21 := y_t19.next hb5
    clear y_t19
    have Ba_t21 := Ba_t19.next hb5
    clear Ba_t19
    have Bb_t21 := Bb_t19.next hb5
    clear Bb_t19
    have Bx_t21 := Bx_t19.next hb5
    clear Bx_t19
    have By_t21 := By_t18.next hb5
    clear By_t18
    have hw_t21 := below_next hw_t19 hb5
    have hs_t21 := hb5.size
    have hb_t23 := below_alloc (Below.refl _ w5) (.cells #[.int .i64 SZ, .slice ads SL.length cs] 29)
    have Bs_t23 := blkA w5 #[.int .i64 SZ, .slice ads SL.length cs] 29
    have hz_t23 : (w5.alloc (.cells #[.int .i64 SZ, .slice ads SL.length cs] 29)).heap.size = w5.heap.size + 1 := World.size_alloc _ _
    have a_t24 := a_t21.next hb_t23
    clear a_t21
    have ua_t24 := ua_t21.next hb_t23
    clear ua_t21
    have b_t24 := b_t21.next hb_t23
    clear b_t21
    have ub_t24 := ub_t21.next hb_t23
    clear ub_t21
    have x_t24 := x_t21.next hb_t23
    clear x_t21
    have y_t24 := y_t21.next hb_t23
    clear y_t21
    have s_t24 := s_n.next hb_t23
    clear s_n
    have Ba_t24 := Ba_t21.next hb_t23
    clear Ba_t21
    have Bb_t24 := Bb_t21.next hb_t23
    clear Bb_t21
    have Bx_t24 := Bx_t21.next hb_t23
    clear Bx_t21
    have By_t24 := By_t21.next hb_t23
    clear By_t21
    have hw_t24 := below_next hw_t21 hb_t23
    have hs_t24 := hb_t23.size
    cases hd : SB
    · subst hd
      have qBa0 : (w5.alloc (.cells #[.int .i64 SZ, .slice ads SL.length cs] 29)).cell? ⟨w1.heap.size, 0, none⟩ = some (.int .i64 za) := by rw [Ba_t24.cell]; rfl
      have qBa1 : (w5.alloc (.cells #[.int .i64 SZ, .slice ads SL.length cs] 29)).cell? ⟨w1.heap.size, 1, none⟩ = some (.slice ada la.length ca) := by rw [Ba_t24.cell]; rfl
      have qBb0 : (w5.alloc (.cells #[.int .i64 SZ, .slice ads SL.length cs] 29)).cell? ⟨w2.heap.size, 0, none⟩ = some (.int .i64 zb) := by rw [Bb_t24.cell]; rfl
      have qBb1 : (w5.alloc (.cells #[.int .i64 SZ, .slice ads SL.length cs] 29)).cell? ⟨w2.heap.size, 1, none⟩ = some (.slice adb lb.length cb) := by rw [Bb_t24.cell]; rfl
      have qBx0 : (w5.alloc (.cells #[.int .i64 SZ, .slice ads SL.length cs] 29)).cell? ⟨w3.heap.size, 0, none⟩ = some (.int .i64 (za + 1)) := by rw [Bx_t24.cell]; rfl
      have qBx1 : (w5.alloc (.cells #[.int .i64 SZ, .slice ads SL.length cs] 29)).cell? ⟨w3.heap.size, 1, none⟩ = some (.slice adx RL.length cx) := by rw [Bx_t24.cell]; rfl
      have qBy0 : (w5.alloc (.cells #[.int .i64 SZ, .slice ads SL.length cs] 29)).cell? ⟨w4.heap.size, 0, none⟩ = some (.int .i64 (za + 1)) := by rw [By_t24.cell]; rfl
      have qBy1 : (w5.alloc (.cells #[.int .i64 SZ, .slice ads SL.length cs] 29)).cell? ⟨w4.heap.size, 1, none⟩ = some (.slice ady RL.length cy) := by rw [By_t24.cell]; rfl
      have qBs0 : (w5.alloc (.cells #[.int .i64 SZ, .slice ads SL.length cs] 29)).cell? ⟨w5.heap.size, 0, none⟩ = some (.int .i64 SZ) := by rw [Bs_t23.cell]; rfl
      have qBs1 : (w5.alloc (.cells #[.int .i64 SZ, .slice ads SL.length cs] 29)).cell? ⟨w5.heap.size, 1, none⟩ = some (.slice ads SL.length cs) := by rw [Bs_t23.cell]; rfl
      go_wp2
      clear qBa0 qBa1 qBb0 qBb1 qBx0 qBx1 qBy0 qBy1 qBs0 qBs1
      have hb_t26 : Below (w5.alloc (.cells #[.int .i64 SZ, .slice ads SL.length cs] 29)).heap.size (w5.alloc (.cells #[.int .i64 SZ, .slice ads SL.length cs] 29)) (w5.alloc (.cells #[.int .i64 SZ, .slice ads SL.length cs] 29)).drew := (Below.refl _ _).drew
      have a_t27 := a_t24.next hb_t26
      clear a_t24
      have ua_t27 := ua_t24.next hb_t26
      clear ua_t24
      have b_t27 := b_t24.next hb_t26
      clear b_t24
      have ub_t27 := ub_t24.next hb_t26
      clear ub_t24
      have x_t27 := x_t24.next hb_t26
      clear x_t24
      have y_t27 := y_t24.next hb_t26
      clear y_t24
      have s_t27 := s_t24.next hb_t26
      clear s_t24
      have Ba_t27 := Ba_t24.next hb_t26
      clear Ba_t24
      have Bb_t27 := Bb_t24.next hb_t26
      clear Bb_t24
      have Bx_t27 := Bx_t24.next hb_t26
      clear Bx_t24
      have By_t27 := By_t24.next hb_t26
      clear By_t24
      have Bs_t27 := Bs_t23.next hb_t26
      clear Bs_t23
      have hw_t27 := below_next hw_t24 hb_t26
      have hs_t27 := hb_t26.size
      refine wp_region_held_drew (S := (fun W => W.cell? ⟨w1.heap.size, 0, none⟩ = some (.int .i64 za) ∧ W.cell? ⟨w1.heap.size, 1, none⟩ = some (.slice ada la.length ca) ∧ W.cell? ⟨w2.heap.size, 0, none⟩ = some (.int .i64 zb) ∧ W.cell? ⟨w2.heap.size, 1, none⟩ = some (.slice adb lb.length cb) ∧ W.cell? ⟨w3.heap.size, 0, none⟩ = some (.int .i64 (za + 1)) ∧ W.cell? ⟨w3.heap.size, 1, none⟩ = some (.slice adx RL.length cx) ∧ W.cell? ⟨w4.heap.size, 0, none⟩ = some (.int .i64 (za + 1)) ∧ W.cell? ⟨w4.heap.size, 1, none⟩ = some (.slice ady RL.length cy) ∧ W.cell? ⟨w5.heap.size, 0, none⟩ = some (.int .i64 SZ) ∧ W.cell? ⟨w5.heap.size, 1, none⟩ = some (.slice ads SL.length cs))) (by kernel_rfl) ?_ (fun hHeld => ?_)
      focus ((try dsimp only); (exact ⟨by rw [Ba_t27.cell]; rfl, by rw [Ba_t27.cell]; rfl, by rw [Bb_t27.cell]; rfl, by rw [Bb_t27.cell]; rfl, by rw [Bx_t27.cell]; rfl, by rw [Bx_t27.cell]; rfl, by rw [By_t27.cell]; rfl, by rw [By_t27.cell]; rfl, by rw [Bs_t27.cell]; rfl, by rw [Bs_t27.cell]; rfl⟩))
      (refine tkW (i := 0) (v := ?_) (by (simp only [ga, gc]; rfl)) (by kernel_rfl) (by (intro _ _ _ h; exact h)) (by rfl) ?_ (by assumption) ?_; rotate_left; (focus ((intro w hSw; (try dsimp only at hSw); go_simp) <;> with_reducible rfl)); (try simp only [Act.put, pa, pb, pc]))
      (refine tkW (i := 1) (v := ?_) (by (simp only [ga, gb, gc]; rfl)) (by kernel_rfl) (by (intro _ _ _ h; exact h)) (by rfl) ?_ (by assumption) ?_; rotate_left; (focus ((intro w hSw; (try dsimp only at hSw); go_simp) <;> with_reducible rfl)); (try simp only [Act.put, pa, pb, pc]))
      (refine tkW (i := 2) (v := ?_) (by (simp only [ga, gb, gc]; rfl)) (by kernel_rfl) (by (intro _ _ _ h; exact h)) (by rfl) ?_ (by assumption) ?_; rotate_left; (focus ((intro w hSw; (try dsimp only at hSw); go_simp) <;> with_reducible rfl)); (try simp only [Act.put, pa, pb, pc]))
      (refine tkS (i := 3) (by (simp only [ga, gb, gc]; rfl)) (by kernel_rfl) (by (intro _ _ _ h; exact h)) (by rfl) (by assumption) ?_; (try simp only [Act.put, pa, pb, pc]))
      (refine tkS (i := 4) (by (simp only [ga, gb, gc]; rfl)) (by kernel_rfl) (by (intro _ _ _ h; exact h)) (by rfl) (by assumption) ?_; (try simp only [Act.put, pa, pb, pc]))
      (refine tkS (i := 5) (by (simp only [ga, gb, gc]; rfl)) (by kernel_rfl) (by (intro _ _ _ h; exact h)) (by rfl) (by assumption) ?_; (try simp only [Act.put, pa, pb, pc]))
      (refine tkS (i := 7) (by (simp only [ga, gb, gc]; rfl)) (by kernel_rfl) (by (intro _ _ _ h; exact h)) (by rfl) (by assumption) ?_; (try simp only [Act.put, pa, pb, pc]))
      (refine tkS (i := 8) (by (simp only [ga, gb, gc]; rfl)) (by kernel_rfl) (by (intro _ _ _ h; exact h)) (by rfl) (by assumption) ?_; (try simp only [Act.put, pa, pb, pc]))
      (refine tkS (i := 9) (by (simp only [ga, gb, gc]; rfl)) (by kernel_rfl) (by (intro _ _ _ h; exact h)) (by rfl) (by assumption) ?_; (try simp only [Act.put, pa, pb, pc]))
      (refine tkS (i := 6) (by (simp only [ga, gb, gc]; rfl)) (by kernel_rfl) (by (intro _ _ _ h; exact h)) (by rfl) (by assumption) ?_; (try simp only [Act.put, pa, pb, pc]))
      (refine tkS (i := 10) (by (simp only [ga, gb, gc]; rfl)) (by kernel_rfl) (by (intro _ _ _ h; exact h)) (by rfl) (by assumption) ?_; (try simp only [Act.put, pa, pb, pc]))
      (refine tkS (i := 11) (by (simp only [ga, gb, gc]; rfl)) (by kernel_rfl) (by (intro _ _ _ h; exact h)) (by rfl) (by assumption) ?_; (try simp only [Act.put, pa, pb, pc]))
      (refine tkS (i := 12) (by (simp only [ga, gb, gc]; rfl)) (by kernel_rfl) (by (intro _ _ _ h; exact h)) (by rfl) (by assumption) ?_; (try simp only [Act.put, pa, pb, pc]))
      (refine tkS (i := 13) (by (simp only [ga, gb, gc]; rfl)) (by kernel_rfl) (by (intro _ _ _ h; exact h)) (by rfl) (by assumption) ?_; (try simp only [Act.put, pa, pb, pc]))
      (refine tkS (i := 14) (by (simp only [ga, gb, gc]; rfl)) (by kernel_rfl) (by (intro _ _ _ h; exact h)) (by rfl) (by assumption) ?_; (try simp only [Act.put, pa, pb, pc]))
      (refine tkS (i := 15) (by (simp only [ga, gb, gc]; rfl)) (by kernel_rfl) (by (intro _ _ _ h; exact h)) (by rfl) (by assumption) ?_; (try simp only [Act.put, pa, pb, pc]))
      (refine tkS (i := 16) (by (simp only [ga, gb, gc]; rfl)) (by kernel_rfl) (by (intro _ _ _ h; exact h)) (by rfl) (by assumption) ?_; (try simp only [Act.put, pa, pb, pc]))
      (refine tkS (i := 17) (by (simp only [ga, gb, gc]; rfl)) (by kernel_rfl) (by (intro _ _ _ h; exact h)) (by rfl) (by assumption) ?_; (try simp only [Act.put, pa, pb, pc]))
      (refine tkS (i := 18) (by (simp only [ga, gb, gc]; rfl)) (by kernel_rfl) (by (intro _ _ _ h; exact h)) (by rfl) (by assumption) ?_; (try simp only [Act.put, pa, pb, pc]))
      (refine tkS (i := 19) (by (simp only [ga, gb, gc]; rfl)) (by kernel_rfl) (by (intro _ _ _ h; exact h)) (by rfl) (by assumption) ?_; (try simp only [Act.put, pa, pb, pc]))
      (refine tkS (i := 20) (by (simp only [ga, gb, gc]; rfl)) (by kernel_rfl) (by (intro _ _ _ h; exact h)) (by rfl) (by assumption) ?_; (try simp only [Act.put, pa, pb, pc]))
      (refine tkS (i := 21) (by (simp only [ga, gb, gc]; rfl)) (by kernel_rfl) (by (intro _ _ _ h; exact h)) (by rfl) (by assumption) ?_; (try simp only [Act.put, pa, pb, pc]))
      (refine tkS (i := 22) (by (simp only [ga, gb, gc]; rfl)) (by kernel_rfl) (by (intro _ _ _ h; exact h)) (by rfl) (by assumption) ?_; (try simp only [Act.put, pa, pb, pc]))
      (refine tkS (i := 23) (by (simp only [ga, gb, gc]; rfl)) (by kernel_rfl) (by (intro _ _ _ h; exact h)) (by rfl) (by assumption) ?_; (try simp only [Act.put, pa, pb, pc]))
      (refine tkS (i := 24) (by (simp only [ga, gb, gc]; rfl)) (by kernel_rfl) (by (intro _ _ _ h; exact h)) (by rfl) (by assumption) ?_; (try simp only [Act.put, pa, pb, pc]))
      (refine tkS (i := 25) (by (simp only [ga, gb, gc]; rfl)) (by kernel_rfl) (by (intro _ _ _ h; exact h)) (by rfl) (by assumption) ?_; (try simp only [Act.put, pa, pb, pc]))
      (refine tkS (i := 26) (by (simp only [ga, gb, gc]; rfl)) (by kernel_rfl) (by (intro _ _ _ h; exact h)) (by rfl) (by assumption) ?_; (try simp only [Act.put, pa, pb, pc]))
      (refine tkS (i := 27) (by (simp only [ga, gb, gc]; rfl)) (by kernel_rfl) (by (intro _ _ _ h; exact h)) (by rfl) (by assumption) ?_; (try simp only [Act.put, pa, pb, pc]))
      (refine tkS (i := 28) (by (simp only [ga, gb, gc]; rfl)) (by kernel_rfl) (by (intro _ _ _ h; exact h)) (by rfl) (by assumption) ?_; (try simp only [Act.put, pa, pb, pc]))
      (refine tkS (i := 29) (by (simp only [ga, gb, gc]; rfl)) (by kernel_rfl) (by (intro _ _ _ h; exact h)) (by rfl) (by assumption) ?_; (try simp only [Act.put, pa, pb, pc]))
      (refine tkS (i := 30) (by (simp only [ga, gb, gc]; rfl)) (by kernel_rfl) (by (intro _ _ _ h; exact h)) (by rfl) (by assumption) ?_; (try simp only [Act.put, pa, pb, pc]))
      (refine tkS (i := 31) (by (simp only [ga, gb, gc]; rfl)) (by kernel_rfl) (by (intro _ _ _ h; exact h)) (by rfl) (by assumption) ?_; (try simp only [Act.put, pa, pb, pc]))
      (refine tkS (i := 32) (by (simp only [ga, gb, gc]; rfl)) (by kernel_rfl) (by (intro _ _ _ h; exact h)) (by rfl) (by assumption) ?_; (try simp only [Act.put, pa, pb, pc]))
      (refine tkS (i := 33) (by (simp only [ga, gb, gc]; rfl)) (by kernel_rfl) (by (intro _ _ _ h; exact h)) (by rfl) (by assumption) ?_; (try simp only [Act.put, pa, pb, pc]))
      (refine tkS (i := 34) (by (simp only [ga, gb, gc]; rfl)) (by kernel_rfl) (by (intro _ _ _ h; exact h)) (by rfl) (by assumption) ?_; (try simp only [Act.put, pa, pb, pc]))
      (refine tkW (i := 35) (v := ?_) (by (simp only [ga, gb, gc]; rfl)) (by kernel_rfl) (by (intro _ _ _ h; exact h)) (by rfl) ?_ (by assumption) ?_; rotate_left; (focus ((intro w hSw; (try dsimp only at hSw); go_simp) <;> with_reducible rfl)); (try simp only [Act.put, pa, pb, pc]))
      (refine tkW (i := 36) (v := ?_) (by (simp only [ga, gb, gc]; rfl)) (by kernel_rfl) (by (intro _ _ _ h; exact h)) (by rfl) ?_ (by assumption) ?_; rotate_left; (focus ((intro w hSw; (try dsimp only at hSw); go_simp) <;> with_reducible rfl)); (try simp only [Act.put, pa, pb, pc]))
      refine wpAnyH_done (by kernel_rfl) ?_ _
      have qBa0 : (w5.alloc (.cells #[.int .i64 SZ, .slice ads SL.length cs] 29)).drew.cell? ⟨w1.heap.size, 0, none⟩ = some (.int .i64 za) := by rw [Ba_t27.cell]; rfl
      have qBa1 : (w5.alloc (.cells #[.int .i64 SZ, .slice ads SL.length cs] 29)).drew.cell? ⟨w1.heap.size, 1, none⟩ = some (.slice ada la.length ca) := by rw [Ba_t27.cell]; rfl
      have qBb0 : (w5.alloc (.cells #[.int .i64 SZ, .slice ads SL.length cs] 29)).drew.cell? ⟨w2.heap.size, 0, none⟩ = some (.int .i64 zb) := by rw [Bb_t27.cell]; rfl
      have qBb1 : (w5.alloc (.cells #[.int .i64 SZ, .slice ads SL.length cs] 29)).drew.cell? ⟨w2.heap.size, 1, none⟩ = some (.slice adb lb.length cb) := by rw [Bb_t27.cell]; rfl
      have qBx0 : (w5.alloc (.cells #[.int .i64 SZ, .slice ads SL.length cs] 29)).drew.cell? ⟨w3.heap.size, 0, none⟩ = some (.int .i64 (za + 1)) := by rw [Bx_t27.cell]; rfl
      have qBx1 : (w5.alloc (.cells #[.int .i64 SZ, .slice ads SL.length cs] 29)).drew.cell? ⟨w3.heap.size, 1, none⟩ = some (.slice adx RL.length cx) := by rw [Bx_t27.cell]; rfl
      have qBy0 : (w5.alloc (.cells #[.int .i64 SZ, .slice ads SL.length cs] 29)).drew.cell? ⟨w4.heap.size, 0, none⟩ = some (.int .i64 (za + 1)) := by rw [By_t27.cell]; rfl
      have qBy1 : (w5.alloc (.cells #[.int .i64 SZ, .slice ads SL.length cs] 29)).drew.cell? ⟨w4.heap.size, 1, none⟩ = some (.slice ady RL.length cy) := by rw [By_t27.cell]; rfl
      have qBs0 : (w5.alloc (.cells #[.int .i64 SZ, .slice ads SL.length cs] 29)).drew.cell? ⟨w5.heap.size, 0, none⟩ = some (.int .i64 SZ) := by rw [Bs_t27.cell]; rfl
      have qBs1 : (w5.alloc (.cells #[.int .i64 SZ, .slice ads SL.length cs] 29)).drew.cell? ⟨w5.heap.size, 1, none⟩ = some (.slice ads SL.length cs) := by rw [Bs_t27.cell]; rfl
      go_wp2
      go_ret
      exact ⟨rfl, hw_t27⟩
    · subst hd
      have HT := HTW.out xb HSS.out.2.2
      rw [HSS.out.1, HSS.out.2.1] at HT
      obtain ⟨hSZ, HAT, hSL⟩ := HT
      have HAT := Lib.hid HAT
      subst hSZ
      have hfS : FitVs SL := by
        have q := do_parts HSS.out.2.2
        rw [← HSS.out.2.1]; exact FitVs.doL q.1 hfR hfxb
      have hal := versAt_length (za + 1) RL (za + 1)
      obtain ⟨R1, HR1⟩ : ∃ R1, Hid (versAt (za + 1) RL (za + 1) = R1) := ⟨_, Lib.hid rfl⟩
      rw [HR1.out] at hal
      have HR2 : Hid (versAt (za + 2) SL (za + 1) = R1) := Lib.hid (HAT.out.trans HR1.out)
      have hwz : IntKind.i64.wrap (za + 2) = za + 2 := IntWalk.i64_in _ (by omega)
      have hw1 : IntKind.i64.wrap ((la.length : Int) + (xa.length : Int)) = (la.length : Int) + (xa.length : Int) := IntWalk.i64_in _ (by omega)
      have hw2 : IntKind.i64.wrap ((la.length : Int) + (xa.length : Int) + (xb.length : Int)) = (la.length : Int) + (xa.length : Int) + (xb.length : Int) := IntWalk.i64_in _ (by omega)
      have hdd : decide ((SL.length : Int) ≤ (la.length : Int) + (xa.length : Int) + (xb.length : Int)) = true := decide_eq_true (by omega)
      have qBa0 : (w5.alloc (.cells #[.int .i64 (za + 2), .slice ads SL.length cs] 29)).cell? ⟨w1.heap.size, 0, none⟩ = some (.int .i64 za) := by rw [Ba_t24.cell]; rfl
      have qBa1 : (w5.alloc (.cells #[.int .i64 (za + 2), .slice ads SL.length cs] 29)).cell? ⟨w1.heap.size, 1, none⟩ = some (.slice ada la.length ca) := by rw [Ba_t24.cell]; rfl
      have qBb0 : (w5.alloc (.cells #[.int .i64 (za + 2), .slice ads SL.length cs] 29)).cell? ⟨w2.heap.size, 0, none⟩ = some (.int .i64 zb) := by rw [Bb_t24.cell]; rfl
      have qBb1 : (w5.alloc (.cells #[.int .i64 (za + 2), .slice ads SL.length cs] 29)).cell? ⟨w2.heap.size, 1, none⟩ = some (.slice adb lb.length cb) := by rw [Bb_t24.cell]; rfl
      have qBx0 : (w5.alloc (.cells #[.int .i64 (za + 2), .slice ads SL.length cs] 29)).cell? ⟨w3.heap.size, 0, none⟩ = some (.int .i64 (za + 1)) := by rw [Bx_t24.cell]; rfl
      have qBx1 : (w5.alloc (.cells #[.int .i64 (za + 2), .slice ads SL.length cs] 29)).cell? ⟨w3.heap.size, 1, none⟩ = some (.slice adx RL.length cx) := by rw [Bx_t24.cell]; rfl
      have qBy0 : (w5.alloc (.cells #[.int .i64 (za + 2), .slice ads SL.length cs] 29)).cell? ⟨w4.heap.size, 0, none⟩ = some (.int .i64 (za + 1)) := by rw [By_t24.cell]; rfl
      have qBy1 : (w5.alloc (.cells #[.int .i64 (za + 2), .slice ads SL.length cs] 29)).cell? ⟨w4.heap.size, 1, none⟩ = some (.slice ady RL.length cy) := by rw [By_t24.cell]; rfl
      have qBs0 : (w5.alloc (.cells #[.int .i64 (za + 2), .slice ads SL.length cs] 29)).cell? ⟨w5.heap.size, 0, none⟩ = some (.int .i64 (za + 2)) := by rw [Bs_t23.cell]; rfl
      have qBs1 : (w5.alloc (.cells #[.int .i64 (za + 2), .slice ads SL.length cs] 29)).cell? ⟨w5.heap.size, 1, none⟩ = some (.slice ads SL.length cs) := by rw [Bs_t23.cell]; rfl
      go_wp2
      clear qBa0 qBa1 qBb0 qBb1 qBx0 qBx1 qBy0 qBy1 qBs0 qBs1
      have hb_t26 : Below (w5.alloc (.cells #[.int .i64 (za + 2), .slice ads SL.length cs] 29)).heap.size (w5.alloc (.cells #[.int .i64 (za + 2), .slice ads SL.length cs] 29)) (w5.alloc (.cells #[.int .i64 (za + 2), .slice ads SL.length cs] 29)).drew := (Below.refl _ _).drew
      have a_t27 := a_t24.next hb_t26
      clear a_t24
      have ua_t27 := ua_t24.next hb_t26
      clear ua_t24
      have b_t27 := b_t24.next hb_t26
      clear b_t24
      have ub_t27 := ub_t24.next hb_t26
      clear ub_t24
      have x_t27 := x_t24.next hb_t26
      clear x_t24
      have y_t27 := y_t24.next hb_t26
      clear y_t24
      have s_t27 := s_t24.next hb_t26
      clear s_t24
      have Ba_t27 := Ba_t24.next hb_t26
      clear Ba_t24
      have Bb_t27 := Bb_t24.next hb_t26
      clear Bb_t24
      have Bx_t27 := Bx_t24.next hb_t26
      clear Bx_t24
      have By_t27 := By_t24.next hb_t26
      clear By_t24
      have Bs_t27 := Bs_t23.next hb_t26
      clear Bs_t23
      have hw_t27 := below_next hw_t24 hb_t26
      have hs_t27 := hb_t26.size
      refine wp_region_held_drew (S := (fun W => W.cell? ⟨w1.heap.size, 0, none⟩ = some (.int .i64 za) ∧ W.cell? ⟨w1.heap.size, 1, none⟩ = some (.slice ada la.length ca) ∧ W.cell? ⟨w2.heap.size, 0, none⟩ = some (.int .i64 zb) ∧ W.cell? ⟨w2.heap.size, 1, none⟩ = some (.slice adb lb.length cb) ∧ W.cell? ⟨w3.heap.size, 0, none⟩ = some (.int .i64 (za + 1)) ∧ W.cell? ⟨w3.heap.size, 1, none⟩ = some (.slice adx RL.length cx) ∧ W.cell? ⟨w4.heap.size, 0, none⟩ = some (.int .i64 (za + 1)) ∧ W.cell? ⟨w4.heap.size, 1, none⟩ = some (.slice ady RL.length cy) ∧ W.cell? ⟨w5.heap.size, 0, none⟩ = some (.int .i64 (za + 2)) ∧ W.cell? ⟨w5.heap.size, 1, none⟩ = some (.slice ads SL.length cs))) (by kernel_rfl) ?_ (fun hHeld => ?_)
      focus ((try dsimp only); (exact ⟨by rw [Ba_t27.cell]; rfl, by rw [Ba_t27.cell]; rfl, by rw [Bb_t27.cell]; rfl, by rw [Bb_t27.cell]; rfl, by rw [Bx_t27.cell]; rfl, by rw [Bx_t27.cell]; rfl, by rw [By_t27.cell]; rfl, by rw [By_t27.cell]; rfl, by rw [Bs_t27.cell]; rfl, by rw [Bs_t27.cell]; rfl⟩))
      (refine tkW (i := 0) (v := ?_) (by (simp only [ga, gc]; rfl)) (by kernel_rfl) (by (intro _ _ _ h; exact h)) (by rfl) ?_ (by assumption) ?_; rotate_left; (focus ((intro w hSw; (try dsimp only at hSw); go_simp) <;> with_reducible rfl)); (try simp only [Act.put, pa, pb, pc]))
      (refine tkW (i := 1) (v := ?_) (by (simp only [ga, gb, gc]; rfl)) (by kernel_rfl) (by (intro _ _ _ h; exact h)) (by rfl) ?_ (by assumption) ?_; rotate_left; (focus ((intro w hSw; (try dsimp only at hSw); go_simp) <;> with_reducible rfl)); (try simp only [Act.put, pa, pb, pc]))
      (refine tkW (i := 2) (v := ?_) (by (simp only [ga, gb, gc]; rfl)) (by kernel_rfl) (by (intro _ _ _ h; exact h)) (by rfl) ?_ (by assumption) ?_; rotate_left; (focus ((intro w hSw; (try dsimp only at hSw); go_simp) <;> with_reducible rfl)); (try simp only [Act.put, pa, pb, pc]))
      (refine tkW (i := 3) (v := ?_) (by (simp only [ga, gb, gc]; rfl)) (by kernel_rfl) (by (intro _ _ _ h; exact h)) (by rfl) ?_ (by assumption) ?_; rotate_left; (focus ((intro w hSw; (try dsimp only at hSw); go_simp) <;> with_reducible rfl)); (try simp only [Act.put, pa, pb, pc]))
      (refine tkW (i := 4) (v := ?_) (by (simp only [ga, gb, gc]; rfl)) (by kernel_rfl) (by (intro _ _ _ h; exact h)) (by rfl) ?_ (by assumption) ?_; rotate_left; (focus ((intro w hSw; (try dsimp only at hSw); go_simp) <;> with_reducible rfl)); (try simp only [Act.put, pa, pb, pc]))
      (refine tkW (i := 5) (v := ?_) (by (simp only [ga, gb, gc]; rfl)) (by kernel_rfl) (by (intro _ _ _ h; exact h)) (by rfl) ?_ (by assumption) ?_; rotate_left; (focus ((intro w hSw; (try dsimp only at hSw); go_simp) <;> with_reducible rfl)); (try simp only [Act.put, pa, pb, pc]))
      (refine tkW (i := 7) (v := ?_) (by (simp only [ga, gb, gc]; rfl)) (by kernel_rfl) (by (intro _ _ _ h; exact h)) (by rfl) ?_ (by assumption) ?_; rotate_left; (focus ((intro w hSw; (try dsimp only at hSw); go_simp) <;> with_reducible rfl)); (try simp only [Act.put, pa, pb, pc]))
      (refine tkW (i := 8) (v := ?_) (by (simp only [ga, gb, gc]; rfl)) (by kernel_rfl) (by (intro _ _ _ h; exact h)) (by rfl) ?_ (by assumption) ?_; rotate_left; (focus ((intro w hSw; (try dsimp only at hSw); go_simp) <;> with_reducible rfl)); (try simp only [Act.put, pa, pb, pc]))
      (refine tkW (i := 9) (v := ?_) (by (simp only [ga, gb, gc]; rfl)) (by kernel_rfl) (by (intro _ _ _ h; exact h)) (by rfl) ?_ (by assumption) ?_; rotate_left; (focus ((intro w hSw; (try dsimp only at hSw); go_simp) <;> with_reducible rfl)); (try simp only [Act.put, pa, pb, pc]))
      (refine wpAnyH_ready (rs := [6]) (by kernel_rfl) (by simp) ?_; refine AllReadyH.cons (by (simp only [ga, gb, gc]; rfl)) (fun K hK => ?_) AllReadyH.nil; go_simp; (go_at_call 26; refine (implVersAtO (za + 1) s_t27 hfS (by omega)).mono ?_; rw [HR2.out]; rintro e w6 ⟨Vr, rfl, r_n, hb6⟩; obtain ⟨adr, cr, rfl, ry1_r, ry2_r, ry3_r⟩ := r_n.read; clear ry1_r ry2_r ry3_r; have a_t29 := a_t27.next hb6; clear a_t27; have ua_t29 := ua_t27.next hb6; clear ua_t27; have b_t29 := b_t27.next hb6; clear b_t27; have ub_t29 := ub_t27.next hb6; clear ub_t27; have x_t29 := x_t27.next hb6; clear x_t27; have y_t29 := y_t27.next hb6; clear y_t27; have s_t29 := s_t27.next hb6; clear s_t27; have Ba_t29 := Ba_t27.next hb6; clear Ba_t27; have Bb_t29 := Bb_t27.next hb6; clear Bb_t27; have Bx_t29 := Bx_t27.next hb6; clear Bx_t27; have By_t29 := By_t27.next hb6; clear By_t27; have Bs_t29 := Bs_t27.next hb6; clear Bs_t27; have hw_t29 := below_next hw_t27 hb6; have hs_t29 := hb6.size); go_wp2_with fail; refine hK.out _ _ ?_ (fun hHeld => ?_); (focus ((try dsimp only); (exact ⟨by rw [Ba_t29.cell]; rfl, by rw [Ba_t29.cell]; rfl, by rw [Bb_t29.cell]; rfl, by rw [Bb_t29.cell]; rfl, by rw [Bx_t29.cell]; rfl, by rw [Bx_t29.cell]; rfl, by rw [By_t29.cell]; rfl, by rw [By_t29.cell]; rfl, by rw [Bs_t29.cell]; rfl, by rw [Bs_t29.cell]; rfl⟩))); clear hK K; (try simp only [Act.put, pa, pb, pc]))
      (refine wpAnyH_ready (rs := [10]) (by kernel_rfl) (by simp) ?_; refine AllReadyH.cons (by (simp only [ga, gb, gc]; rfl)) (fun K hK => ?_) AllReadyH.nil; go_simp; (go_at_call 26; refine (implVersAtO (za + 1) x_t29 hfR (by omega)).mono ?_; rw [HR1.out]; rintro e w7 ⟨Vq, rfl, q_n, hb7⟩; obtain ⟨adq, cq, rfl, ry1_q, ry2_q, ry3_q⟩ := q_n.read; clear ry1_q ry2_q ry3_q; have a_t31 := a_t29.next hb7; clear a_t29; have ua_t31 := ua_t29.next hb7; clear ua_t29; have b_t31 := b_t29.next hb7; clear b_t29; have ub_t31 := ub_t29.next hb7; clear ub_t29; have x_t31 := x_t29.next hb7; clear x_t29; have y_t31 := y_t29.next hb7; clear y_t29; have s_t31 := s_t29.next hb7; clear s_t29; have r_t31 := r_n.next hb7; clear r_n; have Ba_t31 := Ba_t29.next hb7; clear Ba_t29; have Bb_t31 := Bb_t29.next hb7; clear Bb_t29; have Bx_t31 := Bx_t29.next hb7; clear Bx_t29; have By_t31 := By_t29.next hb7; clear By_t29; have Bs_t31 := Bs_t29.next hb7; clear Bs_t29; have hw_t31 := below_next hw_t29 hb7; have hs_t31 := hb7.size); go_wp2_with fail; refine hK.out _ _ ?_ (fun hHeld => ?_); (focus ((try dsimp only); (exact ⟨by rw [Ba_t31.cell]; rfl, by rw [Ba_t31.cell]; rfl, by rw [Bb_t31.cell]; rfl, by rw [Bb_t31.cell]; rfl, by rw [Bx_t31.cell]; rfl, by rw [Bx_t31.cell]; rfl, by rw [By_t31.cell]; rfl, by rw [By_t31.cell]; rfl, by rw [Bs_t31.cell]; rfl, by rw [Bs_t31.cell]; rfl⟩))); clear hK K; (try simp only [Act.put, pa, pb, pc]))
      (refine wpAnyH_ready (rs := [11]) (by kernel_rfl) (by simp) ?_; refine AllReadyH.cons (by (simp only [ga, gb, gc]; rfl)) (fun K hK => ?_) AllReadyH.nil; go_simp; (go_at_call 47; refine (wpO r_t31 q_n (by omega) (by omega)).mono ?_; rintro e w8 ⟨rfl, hb8⟩; rw [eqL_yes rfl]; have a_t33 := a_t31.next hb8; clear a_t31; have ua_t33 := ua_t31.next hb8; clear ua_t31; have b_t33 := b_t31.next hb8; clear b_t31; have ub_t33 := ub_t31.next hb8; clear ub_t31; have x_t33 := x_t31.next hb8; clear x_t31; have y_t33 := y_t31.next hb8; clear y_t31; have s_t33 := s_t31.next hb8; clear s_t31; have r_t33 := r_t31.next hb8; clear r_t31; have q_t33 := q_n.next hb8; clear q_n; have Ba_t33 := Ba_t31.next hb8; clear Ba_t31; have Bb_t33 := Bb_t31.next hb8; clear Bb_t31; have Bx_t33 := Bx_t31.next hb8; clear Bx_t31; have By_t33 := By_t31.next hb8; clear By_t31; have Bs_t33 := Bs_t31.next hb8; clear Bs_t31; have hw_t33 := below_next hw_t31 hb8; have hs_t33 := hb8.size); go_wp2_with fail; refine hK.out _ _ ?_ (fun hHeld => ?_); (focus ((try dsimp only); (exact ⟨by rw [Ba_t33.cell]; rfl, by rw [Ba_t33.cell]; rfl, by rw [Bb_t33.cell]; rfl, by rw [Bb_t33.cell]; rfl, by rw [Bx_t33.cell]; rfl, by rw [Bx_t33.cell]; rfl, by rw [By_t33.cell]; rfl, by rw [By_t33.cell]; rfl, by rw [Bs_t33.cell]; rfl, by rw [Bs_t33.cell]; rfl⟩))); clear hK K; (try simp only [Act.put, pa, pb, pc]))
      (refine tkW (i := 12) (v := ?_) (by (simp only [ga, gb, gc]; rfl)) (by kernel_rfl) (by (intro _ _ _ h; exact h)) (by rfl) ?_ (by assumption) ?_; rotate_left; (focus ((intro w hSw; (try dsimp only at hSw); go_simp) <;> with_reducible rfl)); (try simp only [Act.put, pa, pb, pc]))
      (refine tkW (i := 13) (v := ?_) (by (simp only [ga, gb, gc]; rfl)) (by kernel_rfl) (by (intro _ _ _ h; exact h)) (by rfl) ?_ (by assumption) ?_; rotate_left; (focus ((intro w hSw; (try dsimp only at hSw); go_simp) <;> with_reducible rfl)); (try simp only [Act.put, pa, pb, pc]))
      (refine tkW (i := 14) (v := ?_) (by (simp only [ga, gb, gc]; rfl)) (by kernel_rfl) (by (intro _ _ _ h; exact h)) (by rfl) ?_ (by assumption) ?_; rotate_left; (focus ((intro w hSw; (try dsimp only at hSw); go_simp) <;> with_reducible rfl)); (try simp only [Act.put, pa, pb, pc]))
      (refine tkW (i := 15) (v := ?_) (by (simp only [ga, gb, gc]; rfl)) (by kernel_rfl) (by (intro _ _ _ h; exact h)) (by rfl) ?_ (by assumption) ?_; rotate_left; (focus ((intro w hSw; (try dsimp only at hSw); go_simp) <;> with_reducible rfl)); (try simp only [Act.put, pa, pb, pc]))
      (refine tkW (i := 16) (v := ?_) (by (simp only [ga, gb, gc]; rfl)) (by kernel_rfl) (by (intro _ _ _ h; exact h)) (by rfl) ?_ (by assumption) ?_; rotate_left; (focus ((intro w hSw; (try dsimp only at hSw); go_simp) <;> with_reducible rfl)); (try simp only [Act.put, pa, pb, pc]))
      (refine tkW (i := 17) (v := ?_) (by (simp only [ga, gb, gc]; rfl)) (by kernel_rfl) (by (intro _ _ _ h; exact h)) (by rfl) ?_ (by assumption) ?_; rotate_left; (focus ((intro w hSw; (try dsimp only at hSw); go_simp) <;> with_reducible rfl)); (try simp only [Act.put, pa, pb, pc]))
      (refine tkW (i := 18) (v := ?_) (by (simp only [ga, gb, gc]; rfl)) (by kernel_rfl) (by (intro _ _ _ h; exact h)) (by rfl) ?_ (by assumption) ?_; rotate_left; (focus ((intro w hSw; (try dsimp only at hSw); go_simp) <;> with_reducible rfl)); (try simp only [Act.put, pa, pb, pc]))
      (refine tkW (i := 19) (v := ?_) (by (simp only [ga, gb, gc]; rfl)) (by kernel_rfl) (by (intro _ _ _ h; exact h)) (by rfl) ?_ (by assumption) ?_; rotate_left; (focus ((intro w hSw; (try dsimp only at hSw); go_simp) <;> with_reducible rfl)); (try simp only [Act.put, pa, pb, pc]))
      (refine tkW (i := 20) (v := ?_) (by (simp only [ga, gb, gc]; rfl)) (by kernel_rfl) (by (intro _ _ _ h; exact h)) (by rfl) ?_ (by assumption) ?_; rotate_left; (focus ((intro w hSw; (try dsimp only at hSw); go_simp) <;> with_reducible rfl)); (try simp only [Act.put, pa, pb, pc]))
      (refine tkW (i := 21) (v := ?_) (by (simp only [ga, gb, gc]; rfl)) (by kernel_rfl) (by (intro _ _ _ h; exact h)) (by rfl) ?_ (by assumption) ?_; rotate_left; (focus ((intro w hSw; (try dsimp only at hSw); go_simp) <;> with_reducible rfl)); (try simp only [Act.put, pa, pb, pc]))
      (refine tkW (i := 22) (v := ?_) (by (simp only [ga, gb, gc]; rfl)) (by kernel_rfl) (by (intro _ _ _ h; exact h)) (by rfl) ?_ (by assumption) ?_; rotate_left; (focus ((intro w hSw; (try dsimp only at hSw); go_simp) <;> with_reducible rfl)); (try simp only [Act.put, pa, pb, pc]))
      (refine tkW (i := 23) (v := ?_) (by (simp only [ga, gb, gc]; rfl)) (by kernel_rfl) (by (intro _ _ _ h; exact h)) (by rfl) ?_ (by assumption) ?_; rotate_left; (focus ((intro w hSw; (try dsimp only at hSw); go_simp) <;> with_reducible rfl)); (try simp only [Act.put, pa, pb, pc]))
      (refine tkW (i := 24) (v := ?_) (by (simp only [ga, gb, gc]; rfl)) (by kernel_rfl) (by (intro _ _ _ h; exact h)) (by rfl) ?_ (by assumption) ?_; rotate_left; (focus ((intro w hSw; (try dsimp only at hSw); go_simp) <;> with_reducible rfl)); (try simp only [Act.put, pa, pb, pc]))
      (refine tkW (i := 25) (v := ?_) (by (simp only [ga, gb, gc]; rfl)) (by kernel_rfl) (by (intro _ _ _ h; exact h)) (by rfl) ?_ (by assumption) ?_; rotate_left; (focus ((intro w hSw; (try dsimp only at hSw); go_simp) <;> with_reducible rfl)); (try simp only [Act.put, pa, pb, pc]))
      (refine tkW (i := 26) (v := ?_) (by (simp only [ga, gb, gc]; rfl)) (by kernel_rfl) (by (intro _ _ _ h; exact h)) (by rfl) ?_ (by assumption) ?_; rotate_left; (focus ((intro w hSw; (try dsimp only at hSw); go_simp) <;> with_reducible rfl)); (try simp only [Act.put, pa, pb, pc]))
      (refine tkW (i := 27) (v := ?_) (by (simp only [ga, gb, gc]; rfl)) (by kernel_rfl) (by (intro _ _ _ h; exact h)) (by rfl) ?_ (by assumption) ?_; rotate_left; (focus ((intro w hSw; (try dsimp only at hSw); go_simp) <;> with_reducible rfl)); (try simp only [Act.put, pa, pb, pc]))
      (refine tkW (i := 28) (v := ?_) (by (simp only [ga, gb, gc]; rfl)) (by kernel_rfl) (by (intro _ _ _ h; exact h)) (by rfl) ?_ (by assumption) ?_; rotate_left; (focus ((intro w hSw; (try dsimp only at hSw); go_simp) <;> with_reducible rfl)); (try simp only [Act.put, pa, pb, pc]))
      (refine tkW (i := 29) (v := ?_) (by (simp only [ga, gb, gc]; rfl)) (by kernel_rfl) (by (intro _ _ _ h; exact h)) (by rfl) ?_ (by assumption) ?_; rotate_left; (focus ((intro w hSw; (try dsimp only at hSw); go_simp) <;> with_reducible rfl)); (try simp only [Act.put, pa, pb, pc]))
      (refine tkW (i := 30) (v := ?_) (by (simp only [ga, gb, gc]; rfl)) (by kernel_rfl) (by (intro _ _ _ h; exact h)) (by rfl) ?_ (by assumption) ?_; rotate_left; (focus ((intro w hSw; (try dsimp only at hSw); go_simp) <;> with_reducible rfl)); (try simp only [Act.put, pa, pb, pc]))
      (refine tkW (i := 31) (v := ?_) (by (simp only [ga, gb, gc]; rfl)) (by kernel_rfl) (by (intro _ _ _ h; exact h)) (by rfl) ?_ (by assumption) ?_; rotate_left; (focus ((intro w hSw; (try dsimp only at hSw); go_simp) <;> with_reducible rfl)); (try simp only [Act.put, pa, pb, pc]))
      (refine tkW (i := 32) (v := ?_) (by (simp only [ga, gb, gc]; rfl)) (by kernel_rfl) (by (intro _ _ _ h; exact h)) (by rfl) ?_ (by assumption) ?_; rotate_left; (focus ((intro w hSw; (try dsimp only at hSw); go_simp) <;> with_reducible rfl)); (try simp only [Act.put, pa, pb, pc]))
      (refine tkW (i := 33) (v := ?_) (by (simp only [ga, gb, gc]; rfl)) (by kernel_rfl) (by (intro _ _ _ h; exact h)) (by rfl) ?_ (by assumption) ?_; rotate_left; (focus ((intro w hSw; (try dsimp only at hSw); go_simp) <;> with_reducible rfl)); (try simp only [Act.put, pa, pb, pc]))
      (refine tkW (i := 34) (v := ?_) (by (simp only [ga, gb, gc]; rfl)) (by kernel_rfl) (by (intro _ _ _ h; exact h)) (by rfl) ?_ (by assumption) ?_; rotate_left; (focus ((intro w hSw; (try dsimp only at hSw); go_simp) <;> with_reducible rfl)); (try simp only [Act.put, pa, pb, pc]))
      (refine tkW (i := 35) (v := ?_) (by (simp only [ga, gb, gc]; rfl)) (by kernel_rfl) (by (intro _ _ _ h; exact h)) (by rfl) ?_ (by assumption) ?_; rotate_left; (focus ((intro w hSw; (try dsimp only at hSw); go_simp) <;> with_reducible rfl)); (try simp only [Act.put, pa, pb, pc]))
      (refine tkW (i := 36) (v := ?_) (by (simp only [ga, gb, gc]; rfl)) (by kernel_rfl) (by (intro _ _ _ h; exact h)) (by rfl) ?_ (by assumption) ?_; rotate_left; (focus ((intro w hSw; (try dsimp only at hSw); go_simp) <;> with_reducible rfl)); (try simp only [Act.put, pa, pb, pc]))
      refine wpAnyH_done (by kernel_rfl) ?_ _
      have qBa0 : w8.cell? ⟨w1.heap.size, 0, none⟩ = some (.int .i64 za) := by rw [Ba_t33.cell]; rfl
      have qBa1 : w8.cell? ⟨w1.heap.size, 1, none⟩ = some (.slice ada la.length ca) := by rw [Ba_t33.cell]; rfl
      have qBb0 : w8.cell? ⟨w2.heap.size, 0, none⟩ = some (.int .i64 zb) := by rw [Bb_t33.cell]; rfl
      have qBb1 : w8.cell? ⟨w2.heap.size, 1, none⟩ = some (.slice adb lb.length cb) := by rw [Bb_t33.cell]; rfl
      have qBx0 : w8.cell? ⟨w3.heap.size, 0, none⟩ = some (.int .i64 (za + 1)) := by rw [Bx_t33.cell]; rfl
      have qBx1 : w8.cell? ⟨w3.heap.size, 1, none⟩ = some (.slice adx RL.length cx) := by rw [Bx_t33.cell]; rfl
      have qBy0 : w8.cell? ⟨w4.heap.size, 0, none⟩ = some (.int .i64 (za + 1)) := by rw [By_t33.cell]; rfl
      have qBy1 : w8.cell? ⟨w4.heap.size, 1, none⟩ = some (.slice ady RL.length cy) := by rw [By_t33.cell]; rfl
      have qBs0 : w8.cell? ⟨w5.heap.size, 0, none⟩ = some (.int .i64 (za + 2)) := by rw [Bs_t33.cell]; rfl
      have qBs1 : w8.cell? ⟨w5.heap.size, 1, none⟩ = some (.slice ads SL.length cs) := by rw [Bs_t33.cell]; rfl
      go_wp2
      go_ret
      exact ⟨rfl, hw_t33⟩

set_option maxRecDepth 100000 in
theorem lifted (os : Os) (started : os.Started) (H : Type) (enc : TypeId × Value → H) :
    ReturnsInHanded {} Try.checked os 16 .any (Rows.fnVersTwoSpec.pre6 enc Try.prog Try.f16 Rows.fnVersTwoRow.domain false) (Rows.fnVersTwoSpec.post enc Try.prog Try.f16 false true false false) := by
  refine returnsInHanded_of_change (C := Try.checked) Whole.own started (by kernel_rfl) Try.func16
    (ChangeSpec.witness6 (enc := enc) (C := Try.checked) false ⟨#[], #[.slice none 0 0, .slice none 0 0], []⟩ 8 (by kernel_rfl) (by kernel_rfl) (by kernel_rfl) (by kernel_rfl)) ?_
  intro W base args ds gs before hval0 hW hcnd _
  have hval : ∀ (j : Nat) t v, Try.f16.params[j]? = some t → args[j]? = some v → Value.okWide Try.prog W .any base t v := hval0
  have hW' := hW
  obtain ⟨p, q, hA0, hV, rfl, hfz, hnd⟩ := hW
  have hA : DataW.TrodAll enc Try.prog W 0 (fun _ => true) true Try.f16.params.toList args.toList ds p := hA0
  rw [Try.params16] at hA hval
  obtain ⟨v0, vs0, d0, ds0, p0, q0, hargs, rfl, rfl, h0, r0⟩ := trodAll_cons hA
  obtain ⟨v1, vs1, d1, ds1, p1, q1, rfl, rfl, rfl, h1, r1⟩ := trodAll_cons r0
  obtain ⟨rfl, rfl, rfl⟩ := trodAll_nil r1
  obtain rfl : args = #[v0, v1] := by cases args; simp_all
  obtain ⟨rfl, rfl⟩ := trodVars_none hV
  have k0 := h0
  have lt0 : ∀ x ∈ p0, x.block < W.heap.size := by obtain ⟨m, hm⟩ := k0; exact DataW.trod_lt m _ _ _ hm
  obtain ⟨A0, n0, c0, rfl, hc0, hm0, hr0⟩ := openBytes (hval 0 54 v0 rfl rfl) h0
  have k1 := h1
  have lt1 : ∀ x ∈ p1, x.block < W.heap.size := by obtain ⟨m, hm⟩ := k1; exact DataW.trod_lt m _ _ _ hm
  obtain ⟨A1, n1, c1, rfl, hc1, hm1, hr1⟩ := openBytes (hval 1 54 v1 rfl rfl) h1
  clear hA0 hval0
  refine (walk A0 n0 c0 A1 n1 c1 W hc0 hm0 hr0 hc1 hm1 hr1).mono fun e W' ⟨he, bel⟩ => ?_
  subst he
  exact ⟨_, rfl, _, _, _, [], _, [], hW', trodAll_mk1 (shut_bool Try.underlying4 _), (trodAll_cons_mk (Below.trod Whole.laidOut (by kernel_rfl) (of_decide_eq_true (by kernel_rfl)) k0 bel lt0) (trodAll_cons_mk (Below.trod Whole.laidOut (by kernel_rfl) (of_decide_eq_true (by kernel_rfl)) k1 bel lt1) trodAll_mk0)), rfl, bel.frame _, fun h => by cases h⟩

theorem named : Try.prog.funcNamed Rows.fnVersTwoRow.func = some 16 := by kernel_rfl
theorem closed : Whole.lawFacts Try.prog 16 Try.f16 Rows.fnVersTwoSpec Rows.fnVersTwoRow = true := by kernel_rfl
theorem inst : Try.f16.isInstance Try.prog Rows.fnVersTwoRow.origin Rows.fnVersTwoRow.targs := of_decide_eq_true (by kernel_rfl)
theorem wrap : Try.f16.isWrapper Try.prog Rows.fnVersTwoRow.wrapper Rows.fnVersTwoRow.mainSum := by
  unfold Func.isWrapper; first | (rw [if_pos (by decide +kernel)]; kernel_rfl) | (rw [if_neg (by decide +kernel)]; exact ⟨rfl, rfl⟩)
theorem over : Rows.fnVersTwoRow.holds Try.pinned (OpenSpec.ofChange Rows.fnVersTwoSpec) :=
  OpenClaim.holds_of_wide 16 Try.f16 rfl rfl rfl rfl rfl rfl rfl ⟨rfl, rfl, rfl, rfl, rfl⟩ rfl rfl rfl rfl rfl named Try.func16 (Whole.facts_of closed)
    inst wrap (fun os started H enc _ => lifted os started H enc)

theorem proved : Rows.FnVersTwoSaid := over
#print axioms proved
end Go.Proofs.Ytbhdgalkedegjaa.fnVersTwo
