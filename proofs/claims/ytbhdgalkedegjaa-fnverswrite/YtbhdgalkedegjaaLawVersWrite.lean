/- The law FnVersWrite: for every code that is drawn from, of what is done to a key the last time is now, if it was not gone and is taken away, and of all other keys it is as it was: for every input the call returns true, and the argument reads afterwards as before. No conditions. -/
import Derived.Test.YtbhdgalkedegjaaRows
import Derived.Test.YtbhdgalkedegjaaWhole
import Derived.Test.YtbhdgalkedegjaaA1
import Derived.Test.YtbhdgalkedegjaaDv5
import Derived.Test.YtbhdgalkedegjaaM2d
import Derived.Test.YtbhdgalkedegjaaS2s
import Derived.Test.YtbhdgalkedegjaaA4
import Derived.WalkKit
import Derived.ProofKit
import Derived.OpenShut
import Derived.ShutString
import Derived.ChangeOld
import Derived.Below
namespace Go.Proofs.Ytbhdgalkedegjaa.fnVersWrite
open Go.ChangeShapes Go.WideShapes Go.ChangeAt Go.RowKit
open Go.ChangeMaps (open_string shut_string)
set_option linter.unusedVariables false

set_option maxRecDepth 100000 in
set_option maxHeartbeats 1000000 in
theorem walk (A0 : Option Addr) (n0 c0 : Nat) (w : World) (hc0 : n0 ≤ c0) (hm0 : c0 ≤ maxLen) (hr0 : RdB w w.heap.size A0 n0) :
    Calls Try.prog 12 #[.slice A0 n0 c0] w fun e w' => e = .returned (.bool true) ∧ Below w.heap.size w w' := by
  by_cases hn_n0 : (1048576 : Int) < (n0 : Int)
  · go_enter Try.func12, Try.ntmps12
    go_wp2
    go_ret
    exact ⟨rfl, Below.refl _ _⟩
  go_enter Try.func12, Try.ntmps12
  go_wp2_with fail
  refine (drawVersDo A0 n0 c0 w hc0 hm0 hr0).mono ?_
  rintro e w1 ⟨za, Va, la, Ua, xa, rfl, a_n, hfa, hza, hla, ua_n, hfxa, hlxa, hb1⟩
  obtain ⟨ada, ca, rfl, ry1_a, ry2_a, ry3_a⟩ := a_n.read
  clear ry1_a ry2_a ry3_a
  obtain ⟨adua, cua, rfl, ry1_ua, ry2_ua, ry3_ua⟩ := ua_n.read
  clear ry1_ua ry2_ua ry3_ua
  have hw_t1 := hb1
  have hs_t1 := hb1.size
  have hb_t3 := below_alloc (Below.refl _ w1) (.cells #[.int .i64 za, .slice ada la.length ca] 29)
  have Ba_t3 := blkA w1 #[.int .i64 za, .slice ada la.length ca] 29
  have hz_t3 : (w1.alloc (.cells #[.int .i64 za, .slice ada la.length ca] 29)).heap.size = w1.heap.size + 1 := World.size_alloc _ _
  have a_t4 := a_n.next hb_t3
  clear a_n
  have ua_t4 := ua_n.next hb_t3
  clear ua_n
  have hw_t4 := below_next hw_t1 hb_t3
  have hs_t4 := hb_t3.size
  have hdl := doL_len za la xa (by omega)
  obtain ⟨RZ, RL, RB, HRR⟩ : ∃ RZ RL RB, Hid (doZ za la xa = RZ ∧ doL za la xa = RL ∧ doB za la xa = RB) := ⟨_, _, _, Lib.hid ⟨rfl, rfl, rfl⟩⟩
  rw [HRR.out.2.1] at hdl
  have qBa0 : (w1.alloc (.cells #[.int .i64 za, .slice ada la.length ca] 29)).cell? ⟨w1.heap.size, 0, none⟩ = some (.int .i64 za) := by rw [Ba_t3.cell]; rfl
  have qBa1 : (w1.alloc (.cells #[.int .i64 za, .slice ada la.length ca] 29)).cell? ⟨w1.heap.size, 1, none⟩ = some (.slice ada la.length ca) := by rw [Ba_t3.cell]; rfl
  go_wp2_with fail
  clear qBa0 qBa1
  refine (implVersDoO a_t4 ua_t4 hfa hfxa (by omega) (by omega)).mono ?_
  rw [HRR.out.1, HRR.out.2.1, HRR.out.2.2]
  rintro e w2 ⟨Vx, rfl, x_n, hb2⟩
  obtain ⟨adx, cx, rfl, ry1_x, ry2_x, ry3_x⟩ := x_n.read
  clear ry1_x ry2_x ry3_x
  have a_t6 := a_t4.next hb2
  clear a_t4
  have ua_t6 := ua_t4.next hb2
  clear ua_t4
  have Ba_t6 := Ba_t3.next hb2
  clear Ba_t3
  have hw_t6 := below_next hw_t4 hb2
  have hs_t6 := hb2.size
  have hb_t8 := below_alloc (Below.refl _ w2) (.cells #[.int .i64 RZ, .slice adx RL.length cx] 29)
  have Bx_t8 := blkA w2 #[.int .i64 RZ, .slice adx RL.length cx] 29
  have hz_t8 : (w2.alloc (.cells #[.int .i64 RZ, .slice adx RL.length cx] 29)).heap.size = w2.heap.size + 1 := World.size_alloc _ _
  have a_t9 := a_t6.next hb_t8
  clear a_t6
  have ua_t9 := ua_t6.next hb_t8
  clear ua_t6
  have x_t9 := x_n.next hb_t8
  clear x_n
  have Ba_t9 := Ba_t6.next hb_t8
  clear Ba_t6
  have hw_t9 := below_next hw_t6 hb_t8
  have hs_t9 := hb_t8.size
  have qBa0 : (w2.alloc (.cells #[.int .i64 RZ, .slice adx RL.length cx] 29)).cell? ⟨w1.heap.size, 0, none⟩ = some (.int .i64 za) := by rw [Ba_t9.cell]; rfl
  have qBa1 : (w2.alloc (.cells #[.int .i64 RZ, .slice adx RL.length cx] 29)).cell? ⟨w1.heap.size, 1, none⟩ = some (.slice ada la.length ca) := by rw [Ba_t9.cell]; rfl
  have qBx0 : (w2.alloc (.cells #[.int .i64 RZ, .slice adx RL.length cx] 29)).cell? ⟨w2.heap.size, 0, none⟩ = some (.int .i64 RZ) := by rw [Bx_t8.cell]; rfl
  have qBx1 : (w2.alloc (.cells #[.int .i64 RZ, .slice adx RL.length cx] 29)).cell? ⟨w2.heap.size, 1, none⟩ = some (.slice adx RL.length cx) := by rw [Bx_t8.cell]; rfl
  go_wp2_with fail
  clear qBa0 qBa1 qBx0 qBx1
  refine (specVersDoO a_t9 ua_t9 hfa hfxa (by omega)).mono ?_
  rw [HRR.out.1, HRR.out.2.1, HRR.out.2.2]
  rintro e w3 ⟨Vy, rfl, y_n, hb3⟩
  obtain ⟨ady, cy, rfl, ry1_y, ry2_y, ry3_y⟩ := y_n.read
  clear ry1_y ry2_y ry3_y
  have a_t11 := a_t9.next hb3
  clear a_t9
  have ua_t11 := ua_t9.next hb3
  clear ua_t9
  have x_t11 := x_t9.next hb3
  clear x_t9
  have Ba_t11 := Ba_t9.next hb3
  clear Ba_t9
  have Bx_t11 := Bx_t8.next hb3
  clear Bx_t8
  have hw_t11 := below_next hw_t9 hb3
  have hs_t11 := hb3.size
  have hb_t13 := below_alloc (Below.refl _ w3) (.cells #[.int .i64 RZ, .slice ady RL.length cy] 29)
  have By_t13 := blkA w3 #[.int .i64 RZ, .slice ady RL.length cy] 29
  have hz_t13 : (w3.alloc (.cells #[.int .i64 RZ, .slice ady RL.length cy] 29)).heap.size = w3.heap.size + 1 := World.size_alloc _ _
  have a_t14 := a_t11.next hb_t13
  clear a_t11
  have ua_t14 := ua_t11.next hb_t13
  clear ua_t11
  have x_t14 := x_t11.next hb_t13
  clear x_t11
  have y_t14 := y_n.next hb_t13
  clear y_n
  have Ba_t14 := Ba_t11.next hb_t13
  clear Ba_t11
  have Bx_t14 := Bx_t11.next hb_t13
  clear Bx_t11
  have hw_t14 := below_next hw_t11 hb_t13
  have hs_t14 := hb_t13.size
  cases hc : RB
  · have qBa0 : (w3.alloc (.cells #[.int .i64 RZ, .slice ady RL.length cy] 29)).cell? ⟨w1.heap.size, 0, none⟩ = some (.int .i64 za) := by rw [Ba_t14.cell]; rfl
    have qBa1 : (w3.alloc (.cells #[.int .i64 RZ, .slice ady RL.length cy] 29)).cell? ⟨w1.heap.size, 1, none⟩ = some (.slice ada la.length ca) := by rw [Ba_t14.cell]; rfl
    have qBx0 : (w3.alloc (.cells #[.int .i64 RZ, .slice ady RL.length cy] 29)).cell? ⟨w2.heap.size, 0, none⟩ = some (.int .i64 RZ) := by rw [Bx_t14.cell]; rfl
    have qBx1 : (w3.alloc (.cells #[.int .i64 RZ, .slice ady RL.length cy] 29)).cell? ⟨w2.heap.size, 1, none⟩ = some (.slice adx RL.length cx) := by rw [Bx_t14.cell]; rfl
    have qBy0 : (w3.alloc (.cells #[.int .i64 RZ, .slice ady RL.length cy] 29)).cell? ⟨w3.heap.size, 0, none⟩ = some (.int .i64 RZ) := by rw [By_t13.cell]; rfl
    have qBy1 : (w3.alloc (.cells #[.int .i64 RZ, .slice ady RL.length cy] 29)).cell? ⟨w3.heap.size, 1, none⟩ = some (.slice ady RL.length cy) := by rw [By_t13.cell]; rfl
    go_wp2
    go_ret
    exact ⟨rfl, hw_t14⟩
  · subst hc
    obtain ⟨p1, p2, p3, p4, p5⟩ := do_parts HRR.out.2.2
    have hzR : RZ = za + 1 := HRR.out.1.symm.trans p4
    have HRL : Hid (RL = doAll la xa (za + 1)) := Lib.hid (HRR.out.2.1.symm.trans p5)
    have HDO : Hid (doB za la xa = true) := Lib.hid HRR.out.2.2
    have hfR : FitVs RL := by rw [← HRR.out.2.1]; exact FitVs.doL p1 hfa hfxa
    have hRl : RL.length ≤ 60 := by rw [HRL.out]; exact p3.len
    have HVR : Hid (versB (za + 1) RL = true) := Lib.hid (by rw [HRL.out]; exact versB_yes p3)
    have HVA : Hid (versB za la = true) := Lib.hid (versB_yes p1)
    have hnow := p3.now
    have hnow0 := p1.now0
    clear p1 p2 p3 p4 p5 HRR
    subst hzR
    have HWL : Hid (∀ v ∈ la, ∀ gb L0, getB (versAt za la za) v.k = gb → versLast za la v.k = L0 → versLast (za + 1) RL v.k = wantL xa v.k gb (za + 1) L0) := Lib.hid fun v hv gb L0 e1 e2 => by rw [HRL.out]; exact want_do HDO.out hv e1 e2
    have qBa0 : (w3.alloc (.cells #[.int .i64 (za + 1), .slice ady RL.length cy] 29)).cell? ⟨w1.heap.size, 0, none⟩ = some (.int .i64 za) := by rw [Ba_t14.cell]; rfl
    have qBa1 : (w3.alloc (.cells #[.int .i64 (za + 1), .slice ady RL.length cy] 29)).cell? ⟨w1.heap.size, 1, none⟩ = some (.slice ada la.length ca) := by rw [Ba_t14.cell]; rfl
    have qBx0 : (w3.alloc (.cells #[.int .i64 (za + 1), .slice ady RL.length cy] 29)).cell? ⟨w2.heap.size, 0, none⟩ = some (.int .i64 (za + 1)) := by rw [Bx_t14.cell]; rfl
    have qBx1 : (w3.alloc (.cells #[.int .i64 (za + 1), .slice ady RL.length cy] 29)).cell? ⟨w2.heap.size, 1, none⟩ = some (.slice adx RL.length cx) := by rw [Bx_t14.cell]; rfl
    have qBy0 : (w3.alloc (.cells #[.int .i64 (za + 1), .slice ady RL.length cy] 29)).cell? ⟨w3.heap.size, 0, none⟩ = some (.int .i64 (za + 1)) := by rw [By_t13.cell]; rfl
    have qBy1 : (w3.alloc (.cells #[.int .i64 (za + 1), .slice ady RL.length cy] 29)).cell? ⟨w3.heap.size, 1, none⟩ = some (.slice ady RL.length cy) := by rw [By_t13.cell]; rfl
    go_wp2
    clear qBa0 qBa1 qBx0 qBx1 qBy0 qBy1
    go_loopw [9] (fun i W => ∃ k : Nat, k ≤ la.length ∧ i = .int .i64 k ∧ Below (w3.alloc (.cells #[.int .i64 (za + 1), .slice ady RL.length cy] 29)).heap.size (w3.alloc (.cells #[.int .i64 (za + 1), .slice ady RL.length cy] 29)) W) (fun i _ => la.length - (intOf i).toNat)
    case atStart => exact ⟨0, Nat.zero_le _, rfl, Below.refl _ _⟩
    case round =>
      obtain ⟨k, hk, rfl, hbl⟩ := hrel
      have lq0 := hbl
      have a_t16 := a_t14.next hbl
      clear a_t14
      have ua_t16 := ua_t14.next hbl
      clear ua_t14
      have x_t16 := x_t14.next hbl
      clear x_t14
      have y_t16 := y_t14.next hbl
      clear y_t14
      have Ba_t16 := Ba_t14.next hbl
      clear Ba_t14
      have Bx_t16 := Bx_t14.next hbl
      clear Bx_t14
      have By_t16 := By_t13.next hbl
      clear By_t13
      have hw_t16 := below_next hw_t14 hbl
      have hs_t16 := hbl.size
      by_cases hlt : k < la.length
      · obtain ⟨ebE, eoE, rfl, hqE, _⟩ := (a_t16.rd'.2.2.2).atV hlt
        clear hqE
        have hkI := lenI _ _ hlt
        have HW := Lib.hid (HWL.out la[k] (List.getElem_mem hlt))
        have hal := versAt_length za la za
        have hfr := fitR_versAt (z := za) hfa za
        obtain ⟨R1, HR1⟩ : ∃ R1, Hid (versAt za la za = R1) := ⟨_, Lib.hid rfl⟩
        rw [HR1.out] at hal hfr
        obtain ⟨L0, HL0⟩ : ∃ L0, Hid (versLast za la la[k].k = L0) := ⟨_, Lib.hid rfl⟩
        obtain ⟨GN, GB, HG⟩ : ∃ GN GB, Hid (getN R1 la[k].k = GN ∧ getB R1 la[k].k = GB) := ⟨_, _, Lib.hid ⟨rfl, rfl⟩⟩
        have HF := Lib.hid (HW.out GB L0 (by rw [HR1.out]; exact HG.out.2) HL0.out)
        clear HW
        have qBa0 : wr.cell? ⟨w1.heap.size, 0, none⟩ = some (.int .i64 za) := by rw [Ba_t16.cell]; rfl
        have qBa1 : wr.cell? ⟨w1.heap.size, 1, none⟩ = some (.slice (some ⟨ebE, eoE, none⟩) la.length ca) := by rw [Ba_t16.cell]; rfl
        have qBx0 : wr.cell? ⟨w2.heap.size, 0, none⟩ = some (.int .i64 (za + 1)) := by rw [Bx_t16.cell]; rfl
        have qBx1 : wr.cell? ⟨w2.heap.size, 1, none⟩ = some (.slice adx RL.length cx) := by rw [Bx_t16.cell]; rfl
        have qBy0 : wr.cell? ⟨w3.heap.size, 0, none⟩ = some (.int .i64 (za + 1)) := by rw [By_t16.cell]; rfl
        have qBy1 : wr.cell? ⟨w3.heap.size, 1, none⟩ = some (.slice ady RL.length cy) := by rw [By_t16.cell]; rfl
        have qE0 : wr.cell? ⟨ebE, eoE + k * 4, none⟩ = some (.string la[k].k) := ((a_t16.rd'.2.2.2).fixV rfl hlt).1
        have qE1 : wr.cell? ⟨ebE, eoE + k * 4 + 1, none⟩ = some (.int .i64 la[k].n) := ((a_t16.rd'.2.2.2).fixV rfl hlt).2.1
        have qE2 : wr.cell? ⟨ebE, eoE + k * 4 + 2, none⟩ = some (.int .i64 la[k].f) := ((a_t16.rd'.2.2.2).fixV rfl hlt).2.2.1
        have qE3 : wr.cell? ⟨ebE, eoE + k * 4 + 3, none⟩ = some (.int .i64 la[k].t) := ((a_t16.rd'.2.2.2).fixV rfl hlt).2.2.2
        go_wp2_with fail
        clear qBa0 qBa1 qBx0 qBx1 qBy0 qBy1
        clear qE0 qE1 qE2 qE3
        refine (implVersLastO la[k].k a_t16 hfa (by omega)).mono ?_
        rintro e w4 ⟨rfl, hb4⟩
        rw [HL0.out]
        have a_t18 := a_t16.next hb4
        clear a_t16
        have ua_t18 := ua_t16.next hb4
        clear ua_t16
        have x_t18 := x_t16.next hb4
        clear x_t16
        have y_t18 := y_t16.next hb4
        clear y_t16
        have Ba_t18 := Ba_t16.next hb4
        clear Ba_t16
        have Bx_t18 := Bx_t16.next hb4
        clear Bx_t16
        have By_t18 := By_t16.next hb4
        clear By_t16
        have hw_t18 := below_next hw_t16 hb4
        have hs_t18 := hb4.size
        have lw0_t19 := below_next lq0 hb4
        have qBa0 : w4.cell? ⟨w1.heap.size, 0, none⟩ = some (.int .i64 za) := by rw [Ba_t18.cell]; rfl
        have qBa1 : w4.cell? ⟨w1.heap.size, 1, none⟩ = some (.slice (some ⟨ebE, eoE, none⟩) la.length ca) := by rw [Ba_t18.cell]; rfl
        have qBx0 : w4.cell? ⟨w2.heap.size, 0, none⟩ = some (.int .i64 (za + 1)) := by rw [Bx_t18.cell]; rfl
        have qBx1 : w4.cell? ⟨w2.heap.size, 1, none⟩ = some (.slice adx RL.length cx) := by rw [Bx_t18.cell]; rfl
        have qBy0 : w4.cell? ⟨w3.heap.size, 0, none⟩ = some (.int .i64 (za + 1)) := by rw [By_t18.cell]; rfl
        have qBy1 : w4.cell? ⟨w3.heap.size, 1, none⟩ = some (.slice ady RL.length cy) := by rw [By_t18.cell]; rfl
        have qE0 : w4.cell? ⟨ebE, eoE + k * 4, none⟩ = some (.string la[k].k) := ((a_t18.rd'.2.2.2).fixV rfl hlt).1
        have qE1 : w4.cell? ⟨ebE, eoE + k * 4 + 1, none⟩ = some (.int .i64 la[k].n) := ((a_t18.rd'.2.2.2).fixV rfl hlt).2.1
        have qE2 : w4.cell? ⟨ebE, eoE + k * 4 + 2, none⟩ = some (.int .i64 la[k].f) := ((a_t18.rd'.2.2.2).fixV rfl hlt).2.2.1
        have qE3 : w4.cell? ⟨ebE, eoE + k * 4 + 3, none⟩ = some (.int .i64 la[k].t) := ((a_t18.rd'.2.2.2).fixV rfl hlt).2.2.2
        go_wp2_with fail
        clear qBa0 qBa1 qBx0 qBx1 qBy0 qBy1
        clear qE0 qE1 qE2 qE3
        refine (implVersAtO za a_t18 hfa (by omega)).mono ?_
        rw [HR1.out]
        rintro e w5 ⟨Vr, rfl, r_n, hb5⟩
        obtain ⟨adr, cr, rfl, ry1_r, ry2_r, ry3_r⟩ := r_n.read
        clear ry1_r ry2_r ry3_r
        have a_t20 := a_t18.next hb5
        clear a_t18
        have ua_t20 := ua_t18.next hb5
        clear ua_t18
        have x_t20 := x_t18.next hb5
        clear x_t18
        have y_t20 := y_t18.next hb5
        clear y_t18
        have Ba_t20 := Ba_t18.next hb5
        clear Ba_t18
        have Bx_t20 := Bx_t18.next hb5
        clear Bx_t18
        have By_t20 := By_t18.next hb5
        clear By_t18
        have hw_t20 := below_next hw_t18 hb5
        have hs_t20 := hb5.size
        have lw0_t21 := below_next lw0_t19 hb5
        have qBa0 : w5.cell? ⟨w1.heap.size, 0, none⟩ = some (.int .i64 za) := by rw [Ba_t20.cell]; rfl
        have qBa1 : w5.cell? ⟨w1.heap.size, 1, none⟩ = some (.slice (some ⟨ebE, eoE, none⟩) la.length ca) := by rw [Ba_t20.cell]; rfl
        have qBx0 : w5.cell? ⟨w2.heap.size, 0, none⟩ = some (.int .i64 (za + 1)) := by rw [Bx_t20.cell]; rfl
        have qBx1 : w5.cell? ⟨w2.heap.size, 1, none⟩ = some (.slice adx RL.length cx) := by rw [Bx_t20.cell]; rfl
        have qBy0 : w5.cell? ⟨w3.heap.size, 0, none⟩ = some (.int .i64 (za + 1)) := by rw [By_t20.cell]; rfl
        have qBy1 : w5.cell? ⟨w3.heap.size, 1, none⟩ = some (.slice ady RL.length cy) := by rw [By_t20.cell]; rfl
        have qE0 : w5.cell? ⟨ebE, eoE + k * 4, none⟩ = some (.string la[k].k) := ((a_t20.rd'.2.2.2).fixV rfl hlt).1
        have qE1 : w5.cell? ⟨ebE, eoE + k * 4 + 1, none⟩ = some (.int .i64 la[k].n) := ((a_t20.rd'.2.2.2).fixV rfl hlt).2.1
        have qE2 : w5.cell? ⟨ebE, eoE + k * 4 + 2, none⟩ = some (.int .i64 la[k].f) := ((a_t20.rd'.2.2.2).fixV rfl hlt).2.2.1
        have qE3 : w5.cell? ⟨ebE, eoE + k * 4 + 3, none⟩ = some (.int .i64 la[k].t) := ((a_t20.rd'.2.2.2).fixV rfl hlt).2.2.2
        go_wp2_with fail
        clear qBa0 qBa1 qBx0 qBx1 qBy0 qBy1
        clear qE0 qE1 qE2 qE3
        refine (implGetO la[k].k r_n hfr (by omega)).mono ?_
        rintro e w6 ⟨rfl, hb6⟩
        rw [HG.out.1, HG.out.2]
        have a_t22 := a_t20.next hb6
        clear a_t20
        have ua_t22 := ua_t20.next hb6
        clear ua_t20
        have x_t22 := x_t20.next hb6
        clear x_t20
        have y_t22 := y_t20.next hb6
        clear y_t20
        have r_t22 := r_n.next hb6
        clear r_n
        have Ba_t22 := Ba_t20.next hb6
        clear Ba_t20
        have Bx_t22 := Bx_t20.next hb6
        clear Bx_t20
        have By_t22 := By_t20.next hb6
        clear By_t20
        have hw_t22 := below_next hw_t20 hb6
        have hs_t22 := hb6.size
        have lw0_t23 := below_next lw0_t21 hb6
        clear r_t22
        have qBa0 : w6.cell? ⟨w1.heap.size, 0, none⟩ = some (.int .i64 za) := by rw [Ba_t22.cell]; rfl
        have qBa1 : w6.cell? ⟨w1.heap.size, 1, none⟩ = some (.slice (some ⟨ebE, eoE, none⟩) la.length ca) := by rw [Ba_t22.cell]; rfl
        have qBx0 : w6.cell? ⟨w2.heap.size, 0, none⟩ = some (.int .i64 (za + 1)) := by rw [Bx_t22.cell]; rfl
        have qBx1 : w6.cell? ⟨w2.heap.size, 1, none⟩ = some (.slice adx RL.length cx) := by rw [Bx_t22.cell]; rfl
        have qBy0 : w6.cell? ⟨w3.heap.size, 0, none⟩ = some (.int .i64 (za + 1)) := by rw [By_t22.cell]; rfl
        have qBy1 : w6.cell? ⟨w3.heap.size, 1, none⟩ = some (.slice ady RL.length cy) := by rw [By_t22.cell]; rfl
        have qE0 : w6.cell? ⟨ebE, eoE + k * 4, none⟩ = some (.string la[k].k) := ((a_t22.rd'.2.2.2).fixV rfl hlt).1
        have qE1 : w6.cell? ⟨ebE, eoE + k * 4 + 1, none⟩ = some (.int .i64 la[k].n) := ((a_t22.rd'.2.2.2).fixV rfl hlt).2.1
        have qE2 : w6.cell? ⟨ebE, eoE + k * 4 + 2, none⟩ = some (.int .i64 la[k].f) := ((a_t22.rd'.2.2.2).fixV rfl hlt).2.2.1
        have qE3 : w6.cell? ⟨ebE, eoE + k * 4 + 3, none⟩ = some (.int .i64 la[k].t) := ((a_t22.rd'.2.2.2).fixV rfl hlt).2.2.2
        go_wp2
        clear qBa0 qBa1 qBx0 qBx1 qBy0 qBy1
        clear qE0 qE1 qE2 qE3
        go_loopw [11, 14] (fun n i W => ∃ j : Nat, j ≤ xa.length ∧ i = .int .i64 j ∧ n = .int .i64 (wantL (xa.take j) la[k].k GB (za + 1) L0) ∧ Below w6.heap.size w6 W) (fun _ i _ => xa.length - (intOf i).toNat)
        case atStart => exact ⟨0, Nat.zero_le _, rfl, rfl, Below.refl _ _⟩
        case round =>
          obtain ⟨j, hj, rfl, rfl, hbm⟩ := hrel
          have lq1 := hbm
          have a_t24 := a_t22.next hbm
          clear a_t22
          have ua_t24 := ua_t22.next hbm
          clear ua_t22
          have x_t24 := x_t22.next hbm
          clear x_t22
          have y_t24 := y_t22.next hbm
          clear y_t22
          have Ba_t24 := Ba_t22.next hbm
          clear Ba_t22
          have Bx_t24 := Bx_t22.next hbm
          clear Bx_t22
          have By_t24 := By_t22.next hbm
          clear By_t22
          have hw_t24 := below_next hw_t22 hbm
          have hs_t24 := hbm.size
          have lw0_t25 := below_next lw0_t23 hbm
          obtain ⟨m, HM⟩ : ∃ m, Hid (wantL (xa.take j) la[k].k GB (za + 1) L0 = m) := ⟨_, Lib.hid rfl⟩
          rw [HM.out]
          by_cases hjt : j < xa.length
          · obtain ⟨ebF, eoF, rfl, hqF, _⟩ := (ua_t24.rd'.2.2.2).atX hjt
            clear hqF
            have hjI := lenI _ _ hjt
            have HS := Lib.hid (wantL_succ la[k].k GB (za + 1) L0 hjt)
            cases he : xa[j].k.toList == la[k].k.toList
            · have HE : Hid (wantL (xa.take (j + 1)) la[k].k GB (za + 1) L0 = m) := Lib.hid (by rw [HS.out, HM.out, he]; rfl)
              clear HS
              have qBa0 : wr.cell? ⟨w1.heap.size, 0, none⟩ = some (.int .i64 za) := by rw [Ba_t24.cell]; rfl
              have qBa1 : wr.cell? ⟨w1.heap.size, 1, none⟩ = some (.slice (some ⟨ebE, eoE, none⟩) la.length ca) := by rw [Ba_t24.cell]; rfl
              have qBx0 : wr.cell? ⟨w2.heap.size, 0, none⟩ = some (.int .i64 (za + 1)) := by rw [Bx_t24.cell]; rfl
              have qBx1 : wr.cell? ⟨w2.heap.size, 1, none⟩ = some (.slice adx RL.length cx) := by rw [Bx_t24.cell]; rfl
              have qBy0 : wr.cell? ⟨w3.heap.size, 0, none⟩ = some (.int .i64 (za + 1)) := by rw [By_t24.cell]; rfl
              have qBy1 : wr.cell? ⟨w3.heap.size, 1, none⟩ = some (.slice ady RL.length cy) := by rw [By_t24.cell]; rfl
              have qE0 : wr.cell? ⟨ebE, eoE + k * 4, none⟩ = some (.string la[k].k) := ((a_t24.rd'.2.2.2).fixV rfl hlt).1
              have qE1 : wr.cell? ⟨ebE, eoE + k * 4 + 1, none⟩ = some (.int .i64 la[k].n) := ((a_t24.rd'.2.2.2).fixV rfl hlt).2.1
              have qE2 : wr.cell? ⟨ebE, eoE + k * 4 + 2, none⟩ = some (.int .i64 la[k].f) := ((a_t24.rd'.2.2.2).fixV rfl hlt).2.2.1
              have qE3 : wr.cell? ⟨ebE, eoE + k * 4 + 3, none⟩ = some (.int .i64 la[k].t) := ((a_t24.rd'.2.2.2).fixV rfl hlt).2.2.2
              have qF0 : wr.cell? ⟨ebF, eoF + j * 3, none⟩ = some (.string xa[j].k) := ((ua_t24.rd'.2.2.2).fixX rfl hjt).1
              have qF1 : wr.cell? ⟨ebF, eoF + j * 3 + 1, none⟩ = some (.int .i64 xa[j].n) := ((ua_t24.rd'.2.2.2).fixX rfl hjt).2.1
              have qF2 : wr.cell? ⟨ebF, eoF + j * 3 + 2, none⟩ = some (.bool xa[j].g) := ((ua_t24.rd'.2.2.2).fixX rfl hjt).2.2
              go_wp2
              go_roundw
              case rel => exact ⟨j + 1, by omega, by go_num, by rw [HE.out], lq1⟩
              case measure => simp [intOf]; omega
            · cases GB
              · cases hg : xa[j].g
                · have HE : Hid (wantL (xa.take (j + 1)) la[k].k false (za + 1) L0 = za + 1) := Lib.hid (by rw [HS.out, he, hg]; rfl)
                  clear HS
                  have qBa0 : wr.cell? ⟨w1.heap.size, 0, none⟩ = some (.int .i64 za) := by rw [Ba_t24.cell]; rfl
                  have qBa1 : wr.cell? ⟨w1.heap.size, 1, none⟩ = some (.slice (some ⟨ebE, eoE, none⟩) la.length ca) := by rw [Ba_t24.cell]; rfl
                  have qBx0 : wr.cell? ⟨w2.heap.size, 0, none⟩ = some (.int .i64 (za + 1)) := by rw [Bx_t24.cell]; rfl
                  have qBx1 : wr.cell? ⟨w2.heap.size, 1, none⟩ = some (.slice adx RL.length cx) := by rw [Bx_t24.cell]; rfl
                  have qBy0 : wr.cell? ⟨w3.heap.size, 0, none⟩ = some (.int .i64 (za + 1)) := by rw [By_t24.cell]; rfl
                  have qBy1 : wr.cell? ⟨w3.heap.size, 1, none⟩ = some (.slice ady RL.length cy) := by rw [By_t24.cell]; rfl
                  have qE0 : wr.cell? ⟨ebE, eoE + k * 4, none⟩ = some (.string la[k].k) := ((a_t24.rd'.2.2.2).fixV rfl hlt).1
                  have qE1 : wr.cell? ⟨ebE, eoE + k * 4 + 1, none⟩ = some (.int .i64 la[k].n) := ((a_t24.rd'.2.2.2).fixV rfl hlt).2.1
                  have qE2 : wr.cell? ⟨ebE, eoE + k * 4 + 2, none⟩ = some (.int .i64 la[k].f) := ((a_t24.rd'.2.2.2).fixV rfl hlt).2.2.1
                  have qE3 : wr.cell? ⟨ebE, eoE + k * 4 + 3, none⟩ = some (.int .i64 la[k].t) := ((a_t24.rd'.2.2.2).fixV rfl hlt).2.2.2
                  have qF0 : wr.cell? ⟨ebF, eoF + j * 3, none⟩ = some (.string xa[j].k) := ((ua_t24.rd'.2.2.2).fixX rfl hjt).1
                  have qF1 : wr.cell? ⟨ebF, eoF + j * 3 + 1, none⟩ = some (.int .i64 xa[j].n) := ((ua_t24.rd'.2.2.2).fixX rfl hjt).2.1
                  have qF2 : wr.cell? ⟨ebF, eoF + j * 3 + 2, none⟩ = some (.bool xa[j].g) := ((ua_t24.rd'.2.2.2).fixX rfl hjt).2.2
                  go_wp2
                  go_roundw
                  case rel => exact ⟨j + 1, by omega, by go_num, by rw [HE.out], lq1⟩
                  case measure => simp [intOf]; omega
                · have HE : Hid (wantL (xa.take (j + 1)) la[k].k false (za + 1) L0 = m) := Lib.hid (by rw [HS.out, HM.out, he, hg]; rfl)
                  clear HS
                  have qBa0 : wr.cell? ⟨w1.heap.size, 0, none⟩ = some (.int .i64 za) := by rw [Ba_t24.cell]; rfl
                  have qBa1 : wr.cell? ⟨w1.heap.size, 1, none⟩ = some (.slice (some ⟨ebE, eoE, none⟩) la.length ca) := by rw [Ba_t24.cell]; rfl
                  have qBx0 : wr.cell? ⟨w2.heap.size, 0, none⟩ = some (.int .i64 (za + 1)) := by rw [Bx_t24.cell]; rfl
                  have qBx1 : wr.cell? ⟨w2.heap.size, 1, none⟩ = some (.slice adx RL.length cx) := by rw [Bx_t24.cell]; rfl
                  have qBy0 : wr.cell? ⟨w3.heap.size, 0, none⟩ = some (.int .i64 (za + 1)) := by rw [By_t24.cell]; rfl
                  have qBy1 : wr.cell? ⟨w3.heap.size, 1, none⟩ = some (.slice ady RL.length cy) := by rw [By_t24.cell]; rfl
                  have qE0 : wr.cell? ⟨ebE, eoE + k * 4, none⟩ = some (.string la[k].k) := ((a_t24.rd'.2.2.2).fixV rfl hlt).1
                  have qE1 : wr.cell? ⟨ebE, eoE + k * 4 + 1, none⟩ = some (.int .i64 la[k].n) := ((a_t24.rd'.2.2.2).fixV rfl hlt).2.1
                  have qE2 : wr.cell? ⟨ebE, eoE + k * 4 + 2, none⟩ = some (.int .i64 la[k].f) := ((a_t24.rd'.2.2.2).fixV rfl hlt).2.2.1
                  have qE3 : wr.cell? ⟨ebE, eoE + k * 4 + 3, none⟩ = some (.int .i64 la[k].t) := ((a_t24.rd'.2.2.2).fixV rfl hlt).2.2.2
                  have qF0 : wr.cell? ⟨ebF, eoF + j * 3, none⟩ = some (.string xa[j].k) := ((ua_t24.rd'.2.2.2).fixX rfl hjt).1
                  have qF1 : wr.cell? ⟨ebF, eoF + j * 3 + 1, none⟩ = some (.int .i64 xa[j].n) := ((ua_t24.rd'.2.2.2).fixX rfl hjt).2.1
                  have qF2 : wr.cell? ⟨ebF, eoF + j * 3 + 2, none⟩ = some (.bool xa[j].g) := ((ua_t24.rd'.2.2.2).fixX rfl hjt).2.2
                  go_wp2
                  go_roundw
                  case rel => exact ⟨j + 1, by omega, by go_num, by rw [HE.out], lq1⟩
                  case measure => simp [intOf]; omega
              · have HE : Hid (wantL (xa.take (j + 1)) la[k].k true (za + 1) L0 = za + 1) := Lib.hid (by rw [HS.out, he]; rfl)
                clear HS
                have qBa0 : wr.cell? ⟨w1.heap.size, 0, none⟩ = some (.int .i64 za) := by rw [Ba_t24.cell]; rfl
                have qBa1 : wr.cell? ⟨w1.heap.size, 1, none⟩ = some (.slice (some ⟨ebE, eoE, none⟩) la.length ca) := by rw [Ba_t24.cell]; rfl
                have qBx0 : wr.cell? ⟨w2.heap.size, 0, none⟩ = some (.int .i64 (za + 1)) := by rw [Bx_t24.cell]; rfl
                have qBx1 : wr.cell? ⟨w2.heap.size, 1, none⟩ = some (.slice adx RL.length cx) := by rw [Bx_t24.cell]; rfl
                have qBy0 : wr.cell? ⟨w3.heap.size, 0, none⟩ = some (.int .i64 (za + 1)) := by rw [By_t24.cell]; rfl
                have qBy1 : wr.cell? ⟨w3.heap.size, 1, none⟩ = some (.slice ady RL.length cy) := by rw [By_t24.cell]; rfl
                have qE0 : wr.cell? ⟨ebE, eoE + k * 4, none⟩ = some (.string la[k].k) := ((a_t24.rd'.2.2.2).fixV rfl hlt).1
                have qE1 : wr.cell? ⟨ebE, eoE + k * 4 + 1, none⟩ = some (.int .i64 la[k].n) := ((a_t24.rd'.2.2.2).fixV rfl hlt).2.1
                have qE2 : wr.cell? ⟨ebE, eoE + k * 4 + 2, none⟩ = some (.int .i64 la[k].f) := ((a_t24.rd'.2.2.2).fixV rfl hlt).2.2.1
                have qE3 : wr.cell? ⟨ebE, eoE + k * 4 + 3, none⟩ = some (.int .i64 la[k].t) := ((a_t24.rd'.2.2.2).fixV rfl hlt).2.2.2
                have qF0 : wr.cell? ⟨ebF, eoF + j * 3, none⟩ = some (.string xa[j].k) := ((ua_t24.rd'.2.2.2).fixX rfl hjt).1
                have qF1 : wr.cell? ⟨ebF, eoF + j * 3 + 1, none⟩ = some (.int .i64 xa[j].n) := ((ua_t24.rd'.2.2.2).fixX rfl hjt).2.1
                have qF2 : wr.cell? ⟨ebF, eoF + j * 3 + 2, none⟩ = some (.bool xa[j].g) := ((ua_t24.rd'.2.2.2).fixX rfl hjt).2.2
                go_wp2
                go_roundw
                case rel => exact ⟨j + 1, by omega, by go_num, by rw [HE.out], lq1⟩
                case measure => simp [intOf]; omega
          · have hjI : decide ((j : Int) < (xa.length : Int)) = false := decide_eq_false (by omega)
            have HE : Hid (versLast (za + 1) RL la[k].k = m) := Lib.hid (by rw [HF.out, ← HM.out, show j = xa.length from by omega, List.take_length])
            have qBa0 : wr.cell? ⟨w1.heap.size, 0, none⟩ = some (.int .i64 za) := by rw [Ba_t24.cell]; rfl
            have qBa1 : wr.cell? ⟨w1.heap.size, 1, none⟩ = some (.slice (some ⟨ebE, eoE, none⟩) la.length ca) := by rw [Ba_t24.cell]; rfl
            have qBx0 : wr.cell? ⟨w2.heap.size, 0, none⟩ = some (.int .i64 (za + 1)) := by rw [Bx_t24.cell]; rfl
            have qBx1 : wr.cell? ⟨w2.heap.size, 1, none⟩ = some (.slice adx RL.length cx) := by rw [Bx_t24.cell]; rfl
            have qBy0 : wr.cell? ⟨w3.heap.size, 0, none⟩ = some (.int .i64 (za + 1)) := by rw [By_t24.cell]; rfl
            have qBy1 : wr.cell? ⟨w3.heap.size, 1, none⟩ = some (.slice ady RL.length cy) := by rw [By_t24.cell]; rfl
            have qE0 : wr.cell? ⟨ebE, eoE + k * 4, none⟩ = some (.string la[k].k) := ((a_t24.rd'.2.2.2).fixV rfl hlt).1
            have qE1 : wr.cell? ⟨ebE, eoE + k * 4 + 1, none⟩ = some (.int .i64 la[k].n) := ((a_t24.rd'.2.2.2).fixV rfl hlt).2.1
            have qE2 : wr.cell? ⟨ebE, eoE + k * 4 + 2, none⟩ = some (.int .i64 la[k].f) := ((a_t24.rd'.2.2.2).fixV rfl hlt).2.2.1
            have qE3 : wr.cell? ⟨ebE, eoE + k * 4 + 3, none⟩ = some (.int .i64 la[k].t) := ((a_t24.rd'.2.2.2).fixV rfl hlt).2.2.2
            go_wp2_with fail
            clear qBa0 qBa1 qBx0 qBx1 qBy0 qBy1
            clear qE0 qE1 qE2 qE3
            refine (implVersLastO la[k].k x_t24 hfR (by omega)).mono ?_
            rintro e w7 ⟨rfl, hb7⟩
            rw [HE.out]
            have a_t26 := a_t24.next hb7
            clear a_t24
            have ua_t26 := ua_t24.next hb7
            clear ua_t24
            have x_t26 := x_t24.next hb7
            clear x_t24
            have y_t26 := y_t24.next hb7
            clear y_t24
            have Ba_t26 := Ba_t24.next hb7
            clear Ba_t24
            have Bx_t26 := Bx_t24.next hb7
            clear Bx_t24
            have By_t26 := By_t24.next hb7
            clear By_t24
            have hw_t26 := below_next hw_t24 hb7
            have hs_t26 := hb7.size
            have lw0_t27 := below_next lw0_t25 hb7
            have lw1_t27 := below_next lq1 hb7
            have qBa0 : w7.cell? ⟨w1.heap.size, 0, none⟩ = some (.int .i64 za) := by rw [Ba_t26.cell]; rfl
            have qBa1 : w7.cell? ⟨w1.heap.size, 1, none⟩ = some (.slice (some ⟨ebE, eoE, none⟩) la.length ca) := by rw [Ba_t26.cell]; rfl
            have qBx0 : w7.cell? ⟨w2.heap.size, 0, none⟩ = some (.int .i64 (za + 1)) := by rw [Bx_t26.cell]; rfl
            have qBx1 : w7.cell? ⟨w2.heap.size, 1, none⟩ = some (.slice adx RL.length cx) := by rw [Bx_t26.cell]; rfl
            have qBy0 : w7.cell? ⟨w3.heap.size, 0, none⟩ = some (.int .i64 (za + 1)) := by rw [By_t26.cell]; rfl
            have qBy1 : w7.cell? ⟨w3.heap.size, 1, none⟩ = some (.slice ady RL.length cy) := by rw [By_t26.cell]; rfl
            have qE0 : w7.cell? ⟨ebE, eoE + k * 4, none⟩ = some (.string la[k].k) := ((a_t26.rd'.2.2.2).fixV rfl hlt).1
            have qE1 : w7.cell? ⟨ebE, eoE + k * 4 + 1, none⟩ = some (.int .i64 la[k].n) := ((a_t26.rd'.2.2.2).fixV rfl hlt).2.1
            have qE2 : w7.cell? ⟨ebE, eoE + k * 4 + 2, none⟩ = some (.int .i64 la[k].f) := ((a_t26.rd'.2.2.2).fixV rfl hlt).2.2.1
            have qE3 : w7.cell? ⟨ebE, eoE + k * 4 + 3, none⟩ = some (.int .i64 la[k].t) := ((a_t26.rd'.2.2.2).fixV rfl hlt).2.2.2
            go_wp2
            go_roundw
            case rel => exact ⟨k + 1, by omega, by go_num, lw0_t27⟩
            case measure => simp [intOf]; omega
      · have hkI : decide ((k : Int) < (la.length : Int)) = false := decide_eq_false (by omega)
        have qBa0 : wr.cell? ⟨w1.heap.size, 0, none⟩ = some (.int .i64 za) := by rw [Ba_t16.cell]; rfl
        have qBa1 : wr.cell? ⟨w1.heap.size, 1, none⟩ = some (.slice ada la.length ca) := by rw [Ba_t16.cell]; rfl
        have qBx0 : wr.cell? ⟨w2.heap.size, 0, none⟩ = some (.int .i64 (za + 1)) := by rw [Bx_t16.cell]; rfl
        have qBx1 : wr.cell? ⟨w2.heap.size, 1, none⟩ = some (.slice adx RL.length cx) := by rw [Bx_t16.cell]; rfl
        have qBy0 : wr.cell? ⟨w3.heap.size, 0, none⟩ = some (.int .i64 (za + 1)) := by rw [By_t16.cell]; rfl
        have qBy1 : wr.cell? ⟨w3.heap.size, 1, none⟩ = some (.slice ady RL.length cy) := by rw [By_t16.cell]; rfl
        go_wp2
        go_ret
        exact ⟨rfl, hw_t16⟩

set_option maxRecDepth 100000 in
theorem lifted (os : Os) (started : os.Started) (H : Type) (enc : TypeId × Value → H) :
    ReturnsInHanded {} Try.checked os 12 .any (Rows.fnVersWriteSpec.pre6 enc Try.prog Try.f12 Rows.fnVersWriteRow.domain false) (Rows.fnVersWriteSpec.post enc Try.prog Try.f12 false true false false) := by
  refine returnsInHanded_of_change (C := Try.checked) Whole.own started (by kernel_rfl) Try.func12
    (ChangeSpec.witness6 (enc := enc) (C := Try.checked) false ⟨#[], #[.slice none 0 0], []⟩ 8 (by kernel_rfl) (by kernel_rfl) (by kernel_rfl) (by kernel_rfl)) ?_
  intro W base args ds gs before hval0 hW hcnd _
  have hval : ∀ (j : Nat) t v, Try.f12.params[j]? = some t → args[j]? = some v → Value.okWide Try.prog W .any base t v := hval0
  have hW' := hW
  obtain ⟨p, q, hA0, hV, rfl, hfz, hnd⟩ := hW
  have hA : DataW.TrodAll enc Try.prog W 0 (fun _ => true) true Try.f12.params.toList args.toList ds p := hA0
  rw [Try.params12] at hA hval
  obtain ⟨v0, vs0, d0, ds0, p0, q0, hargs, rfl, rfl, h0, r0⟩ := trodAll_cons hA
  obtain ⟨rfl, rfl, rfl⟩ := trodAll_nil r0
  obtain rfl : args = #[v0] := by cases args; simp_all
  obtain ⟨rfl, rfl⟩ := trodVars_none hV
  have k0 := h0
  have lt0 : ∀ x ∈ p0, x.block < W.heap.size := by obtain ⟨m, hm⟩ := k0; exact DataW.trod_lt m _ _ _ hm
  obtain ⟨A0, n0, c0, rfl, hc0, hm0, hr0⟩ := openBytes (hval 0 54 v0 rfl rfl) h0
  clear hA0 hval0
  refine (walk A0 n0 c0 W hc0 hm0 hr0).mono fun e W' ⟨he, bel⟩ => ?_
  subst he
  exact ⟨_, rfl, _, _, _, [], _, [], hW', trodAll_mk1 (shut_bool Try.underlying4 _), (trodAll_cons_mk (Below.trod Whole.laidOut (by kernel_rfl) (of_decide_eq_true (by kernel_rfl)) k0 bel lt0) trodAll_mk0), rfl, bel.frame _, fun h => by cases h⟩

theorem named : Try.prog.funcNamed Rows.fnVersWriteRow.func = some 12 := by kernel_rfl
theorem closed : Whole.lawFacts Try.prog 12 Try.f12 Rows.fnVersWriteSpec Rows.fnVersWriteRow = true := by kernel_rfl
theorem inst : Try.f12.isInstance Try.prog Rows.fnVersWriteRow.origin Rows.fnVersWriteRow.targs := of_decide_eq_true (by kernel_rfl)
theorem wrap : Try.f12.isWrapper Try.prog Rows.fnVersWriteRow.wrapper Rows.fnVersWriteRow.mainSum := by
  unfold Func.isWrapper; first | (rw [if_pos (by decide +kernel)]; kernel_rfl) | (rw [if_neg (by decide +kernel)]; exact ⟨rfl, rfl⟩)
theorem over : Rows.fnVersWriteRow.holds Try.pinned (OpenSpec.ofChange Rows.fnVersWriteSpec) :=
  OpenClaim.holds_of_wide 12 Try.f12 rfl rfl rfl rfl rfl rfl rfl ⟨rfl, rfl, rfl, rfl, rfl⟩ rfl rfl rfl rfl rfl named Try.func12 (Whole.facts_of closed)
    inst wrap (fun os started H enc _ => lifted os started H enc)

theorem proved : Rows.FnVersWriteSaid := over
#print axioms proved
end Go.Proofs.Ytbhdgalkedegjaa.fnVersWrite
