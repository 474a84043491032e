/- The law FnVersTrim: for every code that is drawn from, what is forgotten at a time stood no more at that time: from that time on all rows are as they were, as in the model, and to forget once more turns nothing: for every input the call returns true, and the argument reads afterwards as before. No conditions. -/
import Derived.Test.YtbhdgalkedegjaaRows
import Derived.Test.YtbhdgalkedegjaaWhole
import Derived.Test.YtbhdgalkedegjaaA1
import Derived.Test.YtbhdgalkedegjaaDv5
import Derived.Test.YtbhdgalkedegjaaM2d
import Derived.Test.YtbhdgalkedegjaaS2s
import Derived.Test.YtbhdgalkedegjaaA4
import Derived.WalkKit
import Derived.ProofKit
import Derived.OpenShut
import Derived.ShutString
import Derived.ChangeOld
import Derived.Below
namespace Go.Proofs.Ytbhdgalkedegjaa.fnVersTrim
open Go.ChangeShapes Go.WideShapes Go.ChangeAt Go.RowKit
open Go.ChangeMaps (open_string shut_string)
set_option linter.unusedVariables false

set_option maxRecDepth 100000 in
set_option maxHeartbeats 1000000 in
theorem walk (A0 : Option Addr) (n0 c0 : Nat) (w : World) (hc0 : n0 ≤ c0) (hm0 : c0 ≤ maxLen) (hr0 : RdB w w.heap.size A0 n0) :
    Calls Try.prog 13 #[.slice A0 n0 c0] w fun e w' => e = .returned (.bool true) ∧ Below w.heap.size w w' := by
  by_cases hn_n0 : (1048576 : Int) < (n0 : Int)
  · go_enter Try.func13, Try.ntmps13
    go_wp2
    go_ret
    exact ⟨rfl, Below.refl _ _⟩
  go_enter Try.func13, Try.ntmps13
  go_wp2_with fail
  refine (drawVersTrim A0 n0 c0 w hc0 hm0 hr0).mono ?_
  rintro e w1 ⟨za, Va, la, ta, rfl, a_n, hfa, hza, hla, hta, hb1⟩
  obtain ⟨ada, ca, rfl, ry1_a, ry2_a, ry3_a⟩ := a_n.read
  clear ry1_a ry2_a ry3_a
  have hw_t1 := hb1
  have hs_t1 := hb1.size
  have hb_t3 := below_alloc (Below.refl _ w1) (.cells #[.int .i64 za, .slice ada la.length ca] 29)
  have Ba_t3 := blkA w1 #[.int .i64 za, .slice ada la.length ca] 29
  have hz_t3 : (w1.alloc (.cells #[.int .i64 za, .slice ada la.length ca] 29)).heap.size = w1.heap.size + 1 := World.size_alloc _ _
  have a_t4 := a_n.next hb_t3
  clear a_n
  have hw_t4 := below_next hw_t1 hb_t3
  have hs_t4 := hb_t3.size
  have htl := trimL_length za la ta
  obtain ⟨RZ, RL, HRR⟩ : ∃ RZ RL, Hid (trimZ za la = RZ ∧ trimL za la ta = RL) := ⟨_, _, Lib.hid ⟨rfl, rfl⟩⟩
  rw [HRR.out.2] at htl
  have qBa0 : (w1.alloc (.cells #[.int .i64 za, .slice ada la.length ca] 29)).cell? ⟨w1.heap.size, 0, none⟩ = some (.int .i64 za) := by rw [Ba_t3.cell]; rfl
  have qBa1 : (w1.alloc (.cells #[.int .i64 za, .slice ada la.length ca] 29)).cell? ⟨w1.heap.size, 1, none⟩ = some (.slice ada la.length ca) := by rw [Ba_t3.cell]; rfl
  go_wp2_with fail
  clear qBa0 qBa1
  refine (implVersTrimO ta a_t4 hfa (by omega)).mono ?_
  rw [HRR.out.1, HRR.out.2]
  rintro e w2 ⟨Vx, rfl, x_n, hb2⟩
  obtain ⟨adx, cx, rfl, ry1_x, ry2_x, ry3_x⟩ := x_n.read
  clear ry1_x ry2_x ry3_x
  have a_t6 := a_t4.next hb2
  clear a_t4
  have Ba_t6 := Ba_t3.next hb2
  clear Ba_t3
  have hw_t6 := below_next hw_t4 hb2
  have hs_t6 := hb2.size
  have hb_t8 := below_alloc (Below.refl _ w2) (.cells #[.int .i64 RZ, .slice adx RL.length cx] 29)
  have Bx_t8 := blkA w2 #[.int .i64 RZ, .slice adx RL.length cx] 29
  have hz_t8 : (w2.alloc (.cells #[.int .i64 RZ, .slice adx RL.length cx] 29)).heap.size = w2.heap.size + 1 := World.size_alloc _ _
  have a_t9 := a_t6.next hb_t8
  clear a_t6
  have x_t9 := x_n.next hb_t8
  clear x_n
  have Ba_t9 := Ba_t6.next hb_t8
  clear Ba_t6
  have hw_t9 := below_next hw_t6 hb_t8
  have hs_t9 := hb_t8.size
  have qBa0 : (w2.alloc (.cells #[.int .i64 RZ, .slice adx RL.length cx] 29)).cell? ⟨w1.heap.size, 0, none⟩ = some (.int .i64 za) := by rw [Ba_t9.cell]; rfl
  have qBa1 : (w2.alloc (.cells #[.int .i64 RZ, .slice adx RL.length cx] 29)).cell? ⟨w1.heap.size, 1, none⟩ = some (.slice ada la.length ca) := by rw [Ba_t9.cell]; rfl
  have qBx0 : (w2.alloc (.cells #[.int .i64 RZ, .slice adx RL.length cx] 29)).cell? ⟨w2.heap.size, 0, none⟩ = some (.int .i64 RZ) := by rw [Bx_t8.cell]; rfl
  have qBx1 : (w2.alloc (.cells #[.int .i64 RZ, .slice adx RL.length cx] 29)).cell? ⟨w2.heap.size, 1, none⟩ = some (.slice adx RL.length cx) := by rw [Bx_t8.cell]; rfl
  go_wp2
  clear qBa0 qBa1 qBx0 qBx1
  have hb_t11 : Below (w2.alloc (.cells #[.int .i64 RZ, .slice adx RL.length cx] 29)).heap.size (w2.alloc (.cells #[.int .i64 RZ, .slice adx RL.length cx] 29)) (w2.alloc (.cells #[.int .i64 RZ, .slice adx RL.length cx] 29)).drew := (Below.refl _ _).drew
  have a_t12 := a_t9.next hb_t11
  clear a_t9
  have x_t12 := x_t9.next hb_t11
  clear x_t9
  have Ba_t12 := Ba_t9.next hb_t11
  clear Ba_t9
  have Bx_t12 := Bx_t8.next hb_t11
  clear Bx_t8
  have hw_t12 := below_next hw_t9 hb_t11
  have hs_t12 := hb_t11.size
  refine wp_region_held_drew (S := (fun W => W.cell? ⟨w1.heap.size, 0, none⟩ = some (.int .i64 za) ∧ W.cell? ⟨w1.heap.size, 1, none⟩ = some (.slice ada la.length ca) ∧ W.cell? ⟨w2.heap.size, 0, none⟩ = some (.int .i64 RZ) ∧ W.cell? ⟨w2.heap.size, 1, none⟩ = some (.slice adx RL.length cx))) (by kernel_rfl) ?_ (fun hHeld => ?_)
  focus ((try dsimp only); (exact ⟨by rw [Ba_t12.cell]; rfl, by rw [Ba_t12.cell]; rfl, by rw [Bx_t12.cell]; rfl, by rw [Bx_t12.cell]; rfl⟩))
  (refine tkW (i := 0) (v := ?_) (by (simp only [ga, gc]; rfl)) (by kernel_rfl) (by (intro _ _ _ h; exact h)) (by rfl) ?_ (by assumption) ?_; rotate_left; (focus ((intro w hSw; (try dsimp only at hSw); go_simp) <;> with_reducible rfl)); (try simp only [Act.put, pa, pb, pc]))
  (refine tkW (i := 1) (v := ?_) (by (simp only [ga, gb, gc]; rfl)) (by kernel_rfl) (by (intro _ _ _ h; exact h)) (by rfl) ?_ (by assumption) ?_; rotate_left; (focus ((intro w hSw; (try dsimp only at hSw); go_simp) <;> with_reducible rfl)); (try simp only [Act.put, pa, pb, pc]))
  (refine tkW (i := 2) (v := ?_) (by (simp only [ga, gb, gc]; rfl)) (by kernel_rfl) (by (intro _ _ _ h; exact h)) (by rfl) ?_ (by assumption) ?_; rotate_left; (focus ((intro w hSw; (try dsimp only at hSw); go_simp) <;> with_reducible rfl)); (try simp only [Act.put, pa, pb, pc]))
  (refine wpAnyH_ready (rs := [3]) (by kernel_rfl) (by simp) ?_; refine AllReadyH.cons (by (simp only [ga, gb, gc]; rfl)) (fun K hK => ?_) AllReadyH.nil; go_simp; (go_at_call 42; refine (specVersTrimO ta a_t12 hfa (by omega)).mono ?_; rw [HRR.out.1, HRR.out.2]; rintro e w3 ⟨Vy, rfl, y_n, hb3⟩; obtain ⟨ady, cy, rfl, ry1_y, ry2_y, ry3_y⟩ := y_n.read; clear ry1_y ry2_y ry3_y; have a_t14 := a_t12.next hb3; clear a_t12; have x_t14 := x_t12.next hb3; clear x_t12; have Ba_t14 := Ba_t12.next hb3; clear Ba_t12; have Bx_t14 := Bx_t12.next hb3; clear Bx_t12; have hw_t14 := below_next hw_t12 hb3; have hs_t14 := hb3.size); go_wp2_with fail; refine hK.out _ _ ?_ (fun hHeld => ?_); (focus ((try dsimp only); (exact ⟨by rw [Ba_t14.cell]; rfl, by rw [Ba_t14.cell]; rfl, by rw [Bx_t14.cell]; rfl, by rw [Bx_t14.cell]; rfl⟩))); clear hK K; (try simp only [Act.put, pa, pb, pc]))
  (refine wpAnyH_ready (rs := [4]) (by kernel_rfl) (by simp) ?_; refine AllReadyH.cons (by (simp only [ga, gb, gc]; rfl)) (fun K hK => ?_) AllReadyH.nil; go_simp; (go_at_call 45; refine (implSameO x_t14 y_n (by omega) (by omega)).mono ?_; rintro e w4 ⟨rfl, hb4⟩; rw [sameB_refl]; have a_t16 := a_t14.next hb4; clear a_t14; have x_t16 := x_t14.next hb4; clear x_t14; have y_t16 := y_n.next hb4; clear y_n; have Ba_t16 := Ba_t14.next hb4; clear Ba_t14; have Bx_t16 := Bx_t14.next hb4; clear Bx_t14; have hw_t16 := below_next hw_t14 hb4; have hs_t16 := hb4.size); go_wp2_with fail; refine hK.out _ _ ?_ (fun hHeld => ?_); (focus ((try dsimp only); (exact ⟨by rw [Ba_t16.cell]; rfl, by rw [Ba_t16.cell]; rfl, by rw [Bx_t16.cell]; rfl, by rw [Bx_t16.cell]; rfl⟩))); clear hK K; (try simp only [Act.put, pa, pb, pc]))
  (refine tkW (i := 5) (v := ?_) (by (simp only [ga, gb, gc]; rfl)) (by kernel_rfl) (by (intro _ _ _ h; exact h)) (by rfl) ?_ (by assumption) ?_; rotate_left; (focus ((intro w hSw; (try dsimp only at hSw); go_simp) <;> with_reducible rfl)); (try simp only [Act.put, pa, pb, pc]))
  refine wpAnyH_done (by kernel_rfl) ?_ _
  clear y_t16
  cases hc : versB za la
  · have qBa0 : w4.cell? ⟨w1.heap.size, 0, none⟩ = some (.int .i64 za) := by rw [Ba_t16.cell]; rfl
    have qBa1 : w4.cell? ⟨w1.heap.size, 1, none⟩ = some (.slice ada la.length ca) := by rw [Ba_t16.cell]; rfl
    have qBx0 : w4.cell? ⟨w2.heap.size, 0, none⟩ = some (.int .i64 RZ) := by rw [Bx_t16.cell]; rfl
    have qBx1 : w4.cell? ⟨w2.heap.size, 1, none⟩ = some (.slice adx RL.length cx) := by rw [Bx_t16.cell]; rfl
    go_wp2_with fail
    clear qBa0 qBa1 qBx0 qBx1
    refine (specVersOkO a_t16 hfa).mono ?_
    rintro e w5 ⟨rfl, hb5⟩
    rw [hc]
    have a_t18 := a_t16.next hb5
    clear a_t16
    have x_t18 := x_t16.next hb5
    clear x_t16
    have Ba_t18 := Ba_t16.next hb5
    clear Ba_t16
    have Bx_t18 := Bx_t16.next hb5
    clear Bx_t16
    have hw_t18 := below_next hw_t16 hb5
    have hs_t18 := hb5.size
    have HT := Lib.hid (show trimZ za la = 0 ∧ trimL za la ta = [] from by unfold trimZ trimL; rw [hc]; exact ⟨rfl, rfl⟩)
    have e1 : RZ = 0 := HRR.out.1.symm.trans HT.out.1
    have e2 : RL = [] := HRR.out.2.symm.trans HT.out.2
    subst e1 e2
    have qBa0 : w5.cell? ⟨w1.heap.size, 0, none⟩ = some (.int .i64 za) := by rw [Ba_t18.cell]; rfl
    have qBa1 : w5.cell? ⟨w1.heap.size, 1, none⟩ = some (.slice ada la.length ca) := by rw [Ba_t18.cell]; rfl
    have qBx0 : w5.cell? ⟨w2.heap.size, 0, none⟩ = some (.int .i64 0) := by rw [Bx_t18.cell]; rfl
    have qBx1 : w5.cell? ⟨w2.heap.size, 1, none⟩ = some (.slice adx ([] : List V).length cx) := by rw [Bx_t18.cell]; rfl
    go_wp2_with fail
    clear qBa0 qBa1 qBx0 qBx1
    refine (implSameO x_t18 (OwnG.nil (α := V) _ 0) (by simp) (by simp)).mono ?_
    rintro e w6 ⟨rfl, hb6⟩
    rw [sameB_refl]
    have a_t20 := a_t18.next hb6
    clear a_t18
    have x_t20 := x_t18.next hb6
    clear x_t18
    have Ba_t20 := Ba_t18.next hb6
    clear Ba_t18
    have Bx_t20 := Bx_t18.next hb6
    clear Bx_t18
    have hw_t20 := below_next hw_t18 hb6
    have hs_t20 := hb6.size
    have qBa0 : w6.cell? ⟨w1.heap.size, 0, none⟩ = some (.int .i64 za) := by rw [Ba_t20.cell]; rfl
    have qBa1 : w6.cell? ⟨w1.heap.size, 1, none⟩ = some (.slice ada la.length ca) := by rw [Ba_t20.cell]; rfl
    have qBx0 : w6.cell? ⟨w2.heap.size, 0, none⟩ = some (.int .i64 0) := by rw [Bx_t20.cell]; rfl
    have qBx1 : w6.cell? ⟨w2.heap.size, 1, none⟩ = some (.slice adx ([] : List V).length cx) := by rw [Bx_t20.cell]; rfl
    go_wp2
    go_ret
    exact ⟨rfl, hw_t20⟩
  · have qBa0 : w4.cell? ⟨w1.heap.size, 0, none⟩ = some (.int .i64 za) := by rw [Ba_t16.cell]; rfl
    have qBa1 : w4.cell? ⟨w1.heap.size, 1, none⟩ = some (.slice ada la.length ca) := by rw [Ba_t16.cell]; rfl
    have qBx0 : w4.cell? ⟨w2.heap.size, 0, none⟩ = some (.int .i64 RZ) := by rw [Bx_t16.cell]; rfl
    have qBx1 : w4.cell? ⟨w2.heap.size, 1, none⟩ = some (.slice adx RL.length cx) := by rw [Bx_t16.cell]; rfl
    go_wp2_with fail
    clear qBa0 qBa1 qBx0 qBx1
    refine (specVersOkO a_t16 hfa).mono ?_
    rintro e w5 ⟨rfl, hb5⟩
    rw [hc]
    have a_t18 := a_t16.next hb5
    clear a_t16
    have x_t18 := x_t16.next hb5
    clear x_t16
    have Ba_t18 := Ba_t16.next hb5
    clear Ba_t16
    have Bx_t18 := Bx_t16.next hb5
    clear Bx_t16
    have hw_t18 := below_next hw_t16 hb5
    have hs_t18 := hb5.size
    have HT := Lib.hid (trim_ok (t := ta) hc)
    have hP := versB_iff.1 hc
    have hz0 := hP.now0
    have hz1 := hP.now
    clear hP
    have e1 : RZ = za := HRR.out.1.symm.trans HT.out.1
    have e2 : RL = keepL la ta := HRR.out.2.symm.trans HT.out.2.1
    subst e1
    have HT2 : Hid (versB RZ RL = true ∧ trimZ RZ RL = RZ ∧ trimL RZ RL ta = RL) := Lib.hid (by rw [e2]; exact ⟨HT.out.2.2.1, HT.out.2.2.2.1, HT.out.2.2.2.2⟩)
    have HAT : Hid (∀ k, ta ≤ k → 0 ≤ k → k ≤ RZ → versAt RZ RL k = versAt RZ la k) := Lib.hid fun k h1 h2 h3 => by rw [e2]; exact trim_at hc h1 h2 h3
    have hfR : FitVs RL := by rw [e2]; exact fun r hr => hfa r (List.mem_filter.1 hr).1
    clear e2 HT HRR
    have qBa0 : w5.cell? ⟨w1.heap.size, 0, none⟩ = some (.int .i64 RZ) := by rw [Ba_t18.cell]; rfl
    have qBa1 : w5.cell? ⟨w1.heap.size, 1, none⟩ = some (.slice ada la.length ca) := by rw [Ba_t18.cell]; rfl
    have qBx0 : w5.cell? ⟨w2.heap.size, 0, none⟩ = some (.int .i64 RZ) := by rw [Bx_t18.cell]; rfl
    have qBx1 : w5.cell? ⟨w2.heap.size, 1, none⟩ = some (.slice adx RL.length cx) := by rw [Bx_t18.cell]; rfl
    go_wp2
    clear qBa0 qBa1 qBx0 qBx1
    go_loopw [6] (fun i W => ∃ k : Nat, (k : Int) ≤ RZ + 1 ∧ i = .int .i64 k ∧ Below w5.heap.size w5 W) (fun i _ => (RZ + 1 - intOf i).toNat)
    case atStart => exact ⟨0, by omega, rfl, Below.refl _ _⟩
    case round =>
      obtain ⟨k, hk, rfl, hbl⟩ := hrel
      have lq0 := hbl
      have a_t20 := a_t18.next hbl
      clear a_t18
      have x_t20 := x_t18.next hbl
      clear x_t18
      have Ba_t20 := Ba_t18.next hbl
      clear Ba_t18
      have Bx_t20 := Bx_t18.next hbl
      clear Bx_t18
      have hw_t20 := below_next hw_t18 hbl
      have hs_t20 := hbl.size
      by_cases hlt : (k : Int) ≤ RZ
      · have hdk : decide ((k : Int) ≤ RZ) = true := decide_eq_true hlt
        by_cases ht : ta ≤ (k : Int)
        · have hdt : decide (ta ≤ (k : Int)) = true := decide_eq_true ht
          have HA := Lib.hid (HAT.out (k : Int) ht (by omega) hlt)
          have hal := versAt_length RZ la (k : Int)
          obtain ⟨R1, HR1⟩ : ∃ R1, Hid (versAt RZ la (k : Int) = R1) := ⟨_, Lib.hid rfl⟩
          rw [HR1.out] at hal
          have HR2 : Hid (versAt RZ RL (k : Int) = R1) := Lib.hid (HA.out.trans HR1.out)
          have qBa0 : wr.cell? ⟨w1.heap.size, 0, none⟩ = some (.int .i64 RZ) := by rw [Ba_t20.cell]; rfl
          have qBa1 : wr.cell? ⟨w1.heap.size, 1, none⟩ = some (.slice ada la.length ca) := by rw [Ba_t20.cell]; rfl
          have qBx0 : wr.cell? ⟨w2.heap.size, 0, none⟩ = some (.int .i64 RZ) := by rw [Bx_t20.cell]; rfl
          have qBx1 : wr.cell? ⟨w2.heap.size, 1, none⟩ = some (.slice adx RL.length cx) := by rw [Bx_t20.cell]; rfl
          go_wp2
          clear qBa0 qBa1 qBx0 qBx1
          have hb_t22 : Below wr.heap.size wr wr.drew := (Below.refl _ _).drew
          have a_t23 := a_t20.next hb_t22
          clear a_t20
          have x_t23 := x_t20.next hb_t22
          clear x_t20
          have Ba_t23 := Ba_t20.next hb_t22
          clear Ba_t20
          have Bx_t23 := Bx_t20.next hb_t22
          clear Bx_t20
          have hw_t23 := below_next hw_t20 hb_t22
          have hs_t23 := hb_t22.size
          have lw0_t24 := below_next lq0 hb_t22
          refine wp_region_held_drew (S := (fun W => W.cell? ⟨w1.heap.size, 0, none⟩ = some (.int .i64 RZ) ∧ W.cell? ⟨w1.heap.size, 1, none⟩ = some (.slice ada la.length ca) ∧ W.cell? ⟨w2.heap.size, 0, none⟩ = some (.int .i64 RZ) ∧ W.cell? ⟨w2.heap.size, 1, none⟩ = some (.slice adx RL.length cx))) (by kernel_rfl) ?_ (fun hHeld => ?_)
          focus ((try dsimp only); (exact ⟨by rw [Ba_t23.cell]; rfl, by rw [Ba_t23.cell]; rfl, by rw [Bx_t23.cell]; rfl, by rw [Bx_t23.cell]; rfl⟩))
          (refine tkW (i := 0) (v := ?_) (by (simp only [ga, gc]; rfl)) (by kernel_rfl) (by (intro _ _ _ h; exact h)) (by rfl) ?_ (by assumption) ?_; rotate_left; (focus ((intro w hSw; (try dsimp only at hSw); go_simp) <;> with_reducible rfl)); (try simp only [Act.put, pa, pb, pc]))
          (refine tkW (i := 1) (v := ?_) (by (simp only [ga, gb, gc]; rfl)) (by kernel_rfl) (by (intro _ _ _ h; exact h)) (by rfl) ?_ (by assumption) ?_; rotate_left; (focus ((intro w hSw; (try dsimp only at hSw); go_simp) <;> with_reducible rfl)); (try simp only [Act.put, pa, pb, pc]))
          (refine tkW (i := 2) (v := ?_) (by (simp only [ga, gb, gc]; rfl)) (by kernel_rfl) (by (intro _ _ _ h; exact h)) (by rfl) ?_ (by assumption) ?_; rotate_left; (focus ((intro w hSw; (try dsimp only at hSw); go_simp) <;> with_reducible rfl)); (try simp only [Act.put, pa, pb, pc]))
          (refine tkW (i := 3) (v := ?_) (by (simp only [ga, gb, gc]; rfl)) (by kernel_rfl) (by (intro _ _ _ h; exact h)) (by rfl) ?_ (by assumption) ?_; rotate_left; (focus ((intro w hSw; (try dsimp only at hSw); go_simp) <;> with_reducible rfl)); (try simp only [Act.put, pa, pb, pc]))
          (refine tkW (i := 4) (v := ?_) (by (simp only [ga, gb, gc]; rfl)) (by kernel_rfl) (by (intro _ _ _ h; exact h)) (by rfl) ?_ (by assumption) ?_; rotate_left; (focus ((intro w hSw; (try dsimp only at hSw); go_simp) <;> with_reducible rfl)); (try simp only [Act.put, pa, pb, pc]))
          (refine tkW (i := 5) (v := ?_) (by (simp only [ga, gb, gc]; rfl)) (by kernel_rfl) (by (intro _ _ _ h; exact h)) (by rfl) ?_ (by assumption) ?_; rotate_left; (focus ((intro w hSw; (try dsimp only at hSw); go_simp) <;> with_reducible rfl)); (try simp only [Act.put, pa, pb, pc]))
          (refine tkW (i := 7) (v := ?_) (by (simp only [ga, gb, gc]; rfl)) (by kernel_rfl) (by (intro _ _ _ h; exact h)) (by rfl) ?_ (by assumption) ?_; rotate_left; (focus ((intro w hSw; (try dsimp only at hSw); go_simp) <;> with_reducible rfl)); (try simp only [Act.put, pa, pb, pc]))
          (refine tkW (i := 8) (v := ?_) (by (simp only [ga, gb, gc]; rfl)) (by kernel_rfl) (by (intro _ _ _ h; exact h)) (by rfl) ?_ (by assumption) ?_; rotate_left; (focus ((intro w hSw; (try dsimp only at hSw); go_simp) <;> with_reducible rfl)); (try simp only [Act.put, pa, pb, pc]))
          (refine wpAnyH_ready (rs := [6]) (by kernel_rfl) (by simp) ?_; refine AllReadyH.cons (by (simp only [ga, gb, gc]; rfl)) (fun K hK => ?_) AllReadyH.nil; go_simp; (go_at_call 26; refine (implVersAtO (k : Int) x_t23 hfR (by omega)).mono ?_; rw [HR2.out]; rintro e w6 ⟨Vr, rfl, r_n, hb6⟩; obtain ⟨adr, cr, rfl, ry1_r, ry2_r, ry3_r⟩ := r_n.read; clear ry1_r ry2_r ry3_r; have a_t25 := a_t23.next hb6; clear a_t23; have x_t25 := x_t23.next hb6; clear x_t23; have Ba_t25 := Ba_t23.next hb6; clear Ba_t23; have Bx_t25 := Bx_t23.next hb6; clear Bx_t23; have hw_t25 := below_next hw_t23 hb6; have hs_t25 := hb6.size; have lw0_t26 := below_next lw0_t24 hb6); go_wp2_with fail; refine hK.out _ _ ?_ (fun hHeld => ?_); (focus ((try dsimp only); (exact ⟨by rw [Ba_t25.cell]; rfl, by rw [Ba_t25.cell]; rfl, by rw [Bx_t25.cell]; rfl, by rw [Bx_t25.cell]; rfl⟩))); clear hK K; (try simp only [Act.put, pa, pb, pc]))
          (refine wpAnyH_ready (rs := [9]) (by kernel_rfl) (by simp) ?_; refine AllReadyH.cons (by (simp only [ga, gb, gc]; rfl)) (fun K hK => ?_) AllReadyH.nil; go_simp; (go_at_call 26; refine (implVersAtO (k : Int) a_t25 hfa (by omega)).mono ?_; rw [HR1.out]; rintro e w7 ⟨Vq, rfl, q_n, hb7⟩; obtain ⟨adq, cq, rfl, ry1_q, ry2_q, ry3_q⟩ := q_n.read; clear ry1_q ry2_q ry3_q; have a_t27 := a_t25.next hb7; clear a_t25; have x_t27 := x_t25.next hb7; clear x_t25; have r_t27 := r_n.next hb7; clear r_n; have Ba_t27 := Ba_t25.next hb7; clear Ba_t25; have Bx_t27 := Bx_t25.next hb7; clear Bx_t25; have hw_t27 := below_next hw_t25 hb7; have hs_t27 := hb7.size; have lw0_t28 := below_next lw0_t26 hb7); go_wp2_with fail; refine hK.out _ _ ?_ (fun hHeld => ?_); (focus ((try dsimp only); (exact ⟨by rw [Ba_t27.cell]; rfl, by rw [Ba_t27.cell]; rfl, by rw [Bx_t27.cell]; rfl, by rw [Bx_t27.cell]; rfl⟩))); clear hK K; (try simp only [Act.put, pa, pb, pc]))
          (refine wpAnyH_ready (rs := [10]) (by kernel_rfl) (by simp) ?_; refine AllReadyH.cons (by (simp only [ga, gb, gc]; rfl)) (fun K hK => ?_) AllReadyH.nil; go_simp; (go_at_call 47; refine (wpO r_t27 q_n (by omega) (by omega)).mono ?_; rintro e w8 ⟨rfl, hb8⟩; rw [eqL_yes rfl]; have a_t29 := a_t27.next hb8; clear a_t27; have x_t29 := x_t27.next hb8; clear x_t27; have r_t29 := r_t27.next hb8; clear r_t27; have q_t29 := q_n.next hb8; clear q_n; have Ba_t29 := Ba_t27.next hb8; clear Ba_t27; have Bx_t29 := Bx_t27.next hb8; clear Bx_t27; have hw_t29 := below_next hw_t27 hb8; have hs_t29 := hb8.size; have lw0_t30 := below_next lw0_t28 hb8); go_wp2_with fail; refine hK.out _ _ ?_ (fun hHeld => ?_); (focus ((try dsimp only); (exact ⟨by rw [Ba_t29.cell]; rfl, by rw [Ba_t29.cell]; rfl, by rw [Bx_t29.cell]; rfl, by rw [Bx_t29.cell]; rfl⟩))); clear hK K; (try simp only [Act.put, pa, pb, pc]))
          (refine tkW (i := 11) (v := ?_) (by (simp only [ga, gb, gc]; rfl)) (by kernel_rfl) (by (intro _ _ _ h; exact h)) (by rfl) ?_ (by assumption) ?_; rotate_left; (focus ((intro w hSw; (try dsimp only at hSw); go_simp) <;> with_reducible rfl)); (try simp only [Act.put, pa, pb, pc]))
          (refine tkW (i := 12) (v := ?_) (by (simp only [ga, gb, gc]; rfl)) (by kernel_rfl) (by (intro _ _ _ h; exact h)) (by rfl) ?_ (by assumption) ?_; rotate_left; (focus ((intro w hSw; (try dsimp only at hSw); go_simp) <;> with_reducible rfl)); (try simp only [Act.put, pa, pb, pc]))
          refine wpAnyH_done (by kernel_rfl) ?_ _
          have qBa0 : w8.cell? ⟨w1.heap.size, 0, none⟩ = some (.int .i64 RZ) := by rw [Ba_t29.cell]; rfl
          have qBa1 : w8.cell? ⟨w1.heap.size, 1, none⟩ = some (.slice ada la.length ca) := by rw [Ba_t29.cell]; rfl
          have qBx0 : w8.cell? ⟨w2.heap.size, 0, none⟩ = some (.int .i64 RZ) := by rw [Bx_t29.cell]; rfl
          have qBx1 : w8.cell? ⟨w2.heap.size, 1, none⟩ = some (.slice adx RL.length cx) := by rw [Bx_t29.cell]; rfl
          go_wp2
          go_roundw
          case rel => exact ⟨k + 1, by omega, by go_num, lw0_t30⟩
          case measure => simp [intOf]; omega
        · have hdt : decide (ta ≤ (k : Int)) = false := decide_eq_false ht
          have qBa0 : wr.cell? ⟨w1.heap.size, 0, none⟩ = some (.int .i64 RZ) := by rw [Ba_t20.cell]; rfl
          have qBa1 : wr.cell? ⟨w1.heap.size, 1, none⟩ = some (.slice ada la.length ca) := by rw [Ba_t20.cell]; rfl
          have qBx0 : wr.cell? ⟨w2.heap.size, 0, none⟩ = some (.int .i64 RZ) := by rw [Bx_t20.cell]; rfl
          have qBx1 : wr.cell? ⟨w2.heap.size, 1, none⟩ = some (.slice adx RL.length cx) := by rw [Bx_t20.cell]; rfl
          go_wp2
          clear qBa0 qBa1 qBx0 qBx1
          have hb_t22 : Below wr.heap.size wr wr.drew := (Below.refl _ _).drew
          have a_t23 := a_t20.next hb_t22
          clear a_t20
          have x_t23 := x_t20.next hb_t22
          clear x_t20
          have Ba_t23 := Ba_t20.next hb_t22
          clear Ba_t20
          have Bx_t23 := Bx_t20.next hb_t22
          clear Bx_t20
          have hw_t23 := below_next hw_t20 hb_t22
          have hs_t23 := hb_t22.size
          have lw0_t24 := below_next lq0 hb_t22
          refine wp_region_held_drew (S := (fun W => W.cell? ⟨w1.heap.size, 0, none⟩ = some (.int .i64 RZ) ∧ W.cell? ⟨w1.heap.size, 1, none⟩ = some (.slice ada la.length ca) ∧ W.cell? ⟨w2.heap.size, 0, none⟩ = some (.int .i64 RZ) ∧ W.cell? ⟨w2.heap.size, 1, none⟩ = some (.slice adx RL.length cx))) (by kernel_rfl) ?_ (fun hHeld => ?_)
          focus ((try dsimp only); (exact ⟨by rw [Ba_t23.cell]; rfl, by rw [Ba_t23.cell]; rfl, by rw [Bx_t23.cell]; rfl, by rw [Bx_t23.cell]; rfl⟩))
          (refine tkW (i := 0) (v := ?_) (by (simp only [ga, gc]; rfl)) (by kernel_rfl) (by (intro _ _ _ h; exact h)) (by rfl) ?_ (by assumption) ?_; rotate_left; (focus ((intro w hSw; (try dsimp only at hSw); go_simp) <;> with_reducible rfl)); (try simp only [Act.put, pa, pb, pc]))
          (refine tkW (i := 1) (v := ?_) (by (simp only [ga, gb, gc]; rfl)) (by kernel_rfl) (by (intro _ _ _ h; exact h)) (by rfl) ?_ (by assumption) ?_; rotate_left; (focus ((intro w hSw; (try dsimp only at hSw); go_simp) <;> with_reducible rfl)); (try simp only [Act.put, pa, pb, pc]))
          (refine tkW (i := 2) (v := ?_) (by (simp only [ga, gb, gc]; rfl)) (by kernel_rfl) (by (intro _ _ _ h; exact h)) (by rfl) ?_ (by assumption) ?_; rotate_left; (focus ((intro w hSw; (try dsimp only at hSw); go_simp) <;> with_reducible rfl)); (try simp only [Act.put, pa, pb, pc]))
          (refine tkW (i := 3) (v := ?_) (by (simp only [ga, gb, gc]; rfl)) (by kernel_rfl) (by (intro _ _ _ h; exact h)) (by rfl) ?_ (by assumption) ?_; rotate_left; (focus ((intro w hSw; (try dsimp only at hSw); go_simp) <;> with_reducible rfl)); (try simp only [Act.put, pa, pb, pc]))
          (refine tkS (i := 4) (by (simp only [ga, gb, gc]; rfl)) (by kernel_rfl) (by (intro _ _ _ h; exact h)) (by rfl) (by assumption) ?_; (try simp only [Act.put, pa, pb, pc]))
          (refine tkS (i := 5) (by (simp only [ga, gb, gc]; rfl)) (by kernel_rfl) (by (intro _ _ _ h; exact h)) (by rfl) (by assumption) ?_; (try simp only [Act.put, pa, pb, pc]))
          (refine tkS (i := 7) (by (simp only [ga, gb, gc]; rfl)) (by kernel_rfl) (by (intro _ _ _ h; exact h)) (by rfl) (by assumption) ?_; (try simp only [Act.put, pa, pb, pc]))
          (refine tkS (i := 8) (by (simp only [ga, gb, gc]; rfl)) (by kernel_rfl) (by (intro _ _ _ h; exact h)) (by rfl) (by assumption) ?_; (try simp only [Act.put, pa, pb, pc]))
          (refine tkS (i := 6) (by (simp only [ga, gb, gc]; rfl)) (by kernel_rfl) (by (intro _ _ _ h; exact h)) (by rfl) (by assumption) ?_; (try simp only [Act.put, pa, pb, pc]))
          (refine tkS (i := 9) (by (simp only [ga, gb, gc]; rfl)) (by kernel_rfl) (by (intro _ _ _ h; exact h)) (by rfl) (by assumption) ?_; (try simp only [Act.put, pa, pb, pc]))
          (refine tkS (i := 10) (by (simp only [ga, gb, gc]; rfl)) (by kernel_rfl) (by (intro _ _ _ h; exact h)) (by rfl) (by assumption) ?_; (try simp only [Act.put, pa, pb, pc]))
          (refine tkS (i := 11) (by (simp only [ga, gb, gc]; rfl)) (by kernel_rfl) (by (intro _ _ _ h; exact h)) (by rfl) (by assumption) ?_; (try simp only [Act.put, pa, pb, pc]))
          (refine tkW (i := 12) (v := ?_) (by (simp only [ga, gb, gc]; rfl)) (by kernel_rfl) (by (intro _ _ _ h; exact h)) (by rfl) ?_ (by assumption) ?_; rotate_left; (focus ((intro w hSw; (try dsimp only at hSw); go_simp) <;> with_reducible rfl)); (try simp only [Act.put, pa, pb, pc]))
          refine wpAnyH_done (by kernel_rfl) ?_ _
          have qBa0 : wr.drew.cell? ⟨w1.heap.size, 0, none⟩ = some (.int .i64 RZ) := by rw [Ba_t23.cell]; rfl
          have qBa1 : wr.drew.cell? ⟨w1.heap.size, 1, none⟩ = some (.slice ada la.length ca) := by rw [Ba_t23.cell]; rfl
          have qBx0 : wr.drew.cell? ⟨w2.heap.size, 0, none⟩ = some (.int .i64 RZ) := by rw [Bx_t23.cell]; rfl
          have qBx1 : wr.drew.cell? ⟨w2.heap.size, 1, none⟩ = some (.slice adx RL.length cx) := by rw [Bx_t23.cell]; rfl
          go_wp2
          go_roundw
          case rel => exact ⟨k + 1, by omega, by go_num, lw0_t24⟩
          case measure => simp [intOf]; omega
      · have hdk : decide ((k : Int) ≤ RZ) = false := decide_eq_false hlt
        have hdl : decide ((RL.length : Int) ≤ (la.length : Int)) = true := decide_eq_true (by omega)
        have qBa0 : wr.cell? ⟨w1.heap.size, 0, none⟩ = some (.int .i64 RZ) := by rw [Ba_t20.cell]; rfl
        have qBa1 : wr.cell? ⟨w1.heap.size, 1, none⟩ = some (.slice ada la.length ca) := by rw [Ba_t20.cell]; rfl
        have qBx0 : wr.cell? ⟨w2.heap.size, 0, none⟩ = some (.int .i64 RZ) := by rw [Bx_t20.cell]; rfl
        have qBx1 : wr.cell? ⟨w2.heap.size, 1, none⟩ = some (.slice adx RL.length cx) := by rw [Bx_t20.cell]; rfl
        go_wp2
        clear qBa0 qBa1 qBx0 qBx1
        have hb_t22 : Below wr.heap.size wr wr.drew := (Below.refl _ _).drew
        have a_t23 := a_t20.next hb_t22
        clear a_t20
        have x_t23 := x_t20.next hb_t22
        clear x_t20
        have Ba_t23 := Ba_t20.next hb_t22
        clear Ba_t20
        have Bx_t23 := Bx_t20.next hb_t22
        clear Bx_t20
        have hw_t23 := below_next hw_t20 hb_t22
        have hs_t23 := hb_t22.size
        have lw0_t24 := below_next lq0 hb_t22
        refine wp_region_held_drew (S := (fun W => W.cell? ⟨w1.heap.size, 0, none⟩ = some (.int .i64 RZ) ∧ W.cell? ⟨w1.heap.size, 1, none⟩ = some (.slice ada la.length ca) ∧ W.cell? ⟨w2.heap.size, 0, none⟩ = some (.int .i64 RZ) ∧ W.cell? ⟨w2.heap.size, 1, none⟩ = some (.slice adx RL.length cx))) (by kernel_rfl) ?_ (fun hHeld => ?_)
        focus ((try dsimp only); (exact ⟨by rw [Ba_t23.cell]; rfl, by rw [Ba_t23.cell]; rfl, by rw [Bx_t23.cell]; rfl, by rw [Bx_t23.cell]; rfl⟩))
        (refine tkW (i := 0) (v := ?_) (by (simp only [ga, gc]; rfl)) (by kernel_rfl) (by (intro _ _ _ h; exact h)) (by rfl) ?_ (by assumption) ?_; rotate_left; (focus ((intro w hSw; (try dsimp only at hSw); go_simp) <;> with_reducible rfl)); (try simp only [Act.put, pa, pb, pc]))
        (refine wpAnyH_ready (rs := [1]) (by kernel_rfl) (by simp) ?_; refine AllReadyH.cons (by (simp only [ga, gb, gc]; rfl)) (fun K hK => ?_) AllReadyH.nil; go_simp; (go_at_call 23; refine (implVersOkO x_t23 hfR).mono ?_; rintro e w6 ⟨rfl, hb6⟩; rw [HT2.out.1]; have a_t25 := a_t23.next hb6; clear a_t23; have x_t25 := x_t23.next hb6; clear x_t23; have Ba_t25 := Ba_t23.next hb6; clear Ba_t23; have Bx_t25 := Bx_t23.next hb6; clear Bx_t23; have hw_t25 := below_next hw_t23 hb6; have hs_t25 := hb6.size; have lw0_t26 := below_next lw0_t24 hb6); go_wp2_with fail; refine hK.out _ _ ?_ (fun hHeld => ?_); (focus ((try dsimp only); (exact ⟨by rw [Ba_t25.cell]; rfl, by rw [Ba_t25.cell]; rfl, by rw [Bx_t25.cell]; rfl, by rw [Bx_t25.cell]; rfl⟩))); clear hK K; (try simp only [Act.put, pa, pb, pc]))
        (refine tkW (i := 2) (v := ?_) (by (simp only [ga, gb, gc]; rfl)) (by kernel_rfl) (by (intro _ _ _ h; exact h)) (by rfl) ?_ (by assumption) ?_; rotate_left; (focus ((intro w hSw; (try dsimp only at hSw); go_simp) <;> with_reducible rfl)); (try simp only [Act.put, pa, pb, pc]))
        (refine tkW (i := 3) (v := ?_) (by (simp only [ga, gb, gc]; rfl)) (by kernel_rfl) (by (intro _ _ _ h; exact h)) (by rfl) ?_ (by assumption) ?_; rotate_left; (focus ((intro w hSw; (try dsimp only at hSw); go_simp) <;> with_reducible rfl)); (try simp only [Act.put, pa, pb, pc]))
        (refine tkW (i := 4) (v := ?_) (by (simp only [ga, gb, gc]; rfl)) (by kernel_rfl) (by (intro _ _ _ h; exact h)) (by rfl) ?_ (by assumption) ?_; rotate_left; (focus ((intro w hSw; (try dsimp only at hSw); go_simp) <;> with_reducible rfl)); (try simp only [Act.put, pa, pb, pc]))
        (refine tkW (i := 5) (v := ?_) (by (simp only [ga, gb, gc]; rfl)) (by kernel_rfl) (by (intro _ _ _ h; exact h)) (by rfl) ?_ (by assumption) ?_; rotate_left; (focus ((intro w hSw; (try dsimp only at hSw); go_simp) <;> with_reducible rfl)); (try simp only [Act.put, pa, pb, pc]))
        (refine tkW (i := 6) (v := ?_) (by (simp only [ga, gb, gc]; rfl)) (by kernel_rfl) (by (intro _ _ _ h; exact h)) (by rfl) ?_ (by assumption) ?_; rotate_left; (focus ((intro w hSw; (try dsimp only at hSw); go_simp) <;> with_reducible rfl)); (try simp only [Act.put, pa, pb, pc]))
        (refine tkW (i := 7) (v := ?_) (by (simp only [ga, gb, gc]; rfl)) (by kernel_rfl) (by (intro _ _ _ h; exact h)) (by rfl) ?_ (by assumption) ?_; rotate_left; (focus ((intro w hSw; (try dsimp only at hSw); go_simp) <;> with_reducible rfl)); (try simp only [Act.put, pa, pb, pc]))
        (refine tkW (i := 8) (v := ?_) (by (simp only [ga, gb, gc]; rfl)) (by kernel_rfl) (by (intro _ _ _ h; exact h)) (by rfl) ?_ (by assumption) ?_; rotate_left; (focus ((intro w hSw; (try dsimp only at hSw); go_simp) <;> with_reducible rfl)); (try simp only [Act.put, pa, pb, pc]))
        (refine tkW (i := 9) (v := ?_) (by (simp only [ga, gb, gc]; rfl)) (by kernel_rfl) (by (intro _ _ _ h; exact h)) (by rfl) ?_ (by assumption) ?_; rotate_left; (focus ((intro w hSw; (try dsimp only at hSw); go_simp) <;> with_reducible rfl)); (try simp only [Act.put, pa, pb, pc]))
        (refine tkW (i := 10) (v := ?_) (by (simp only [ga, gb, gc]; rfl)) (by kernel_rfl) (by (intro _ _ _ h; exact h)) (by rfl) ?_ (by assumption) ?_; rotate_left; (focus ((intro w hSw; (try dsimp only at hSw); go_simp) <;> with_reducible rfl)); (try simp only [Act.put, pa, pb, pc]))
        (refine tkW (i := 11) (v := ?_) (by (simp only [ga, gb, gc]; rfl)) (by kernel_rfl) (by (intro _ _ _ h; exact h)) (by rfl) ?_ (by assumption) ?_; rotate_left; (focus ((intro w hSw; (try dsimp only at hSw); go_simp) <;> with_reducible rfl)); (try simp only [Act.put, pa, pb, pc]))
        (refine tkW (i := 12) (v := ?_) (by (simp only [ga, gb, gc]; rfl)) (by kernel_rfl) (by (intro _ _ _ h; exact h)) (by rfl) ?_ (by assumption) ?_; rotate_left; (focus ((intro w hSw; (try dsimp only at hSw); go_simp) <;> with_reducible rfl)); (try simp only [Act.put, pa, pb, pc]))
        (refine tkW (i := 13) (v := ?_) (by (simp only [ga, gb, gc]; rfl)) (by kernel_rfl) (by (intro _ _ _ h; exact h)) (by rfl) ?_ (by assumption) ?_; rotate_left; (focus ((intro w hSw; (try dsimp only at hSw); go_simp) <;> with_reducible rfl)); (try simp only [Act.put, pa, pb, pc]))
        (refine tkW (i := 15) (v := ?_) (by (simp only [ga, gb, gc]; rfl)) (by kernel_rfl) (by (intro _ _ _ h; exact h)) (by rfl) ?_ (by assumption) ?_; rotate_left; (focus ((intro w hSw; (try dsimp only at hSw); go_simp) <;> with_reducible rfl)); (try simp only [Act.put, pa, pb, pc]))
        (refine wpAnyH_ready (rs := [14]) (by kernel_rfl) (by simp) ?_; refine AllReadyH.cons (by (simp only [ga, gb, gc]; rfl)) (fun K hK => ?_) AllReadyH.nil; go_simp; (go_at_call 43; refine (implVersTrimO ta x_t25 hfR (by omega)).mono ?_; rw [HT2.out.2.1, HT2.out.2.2]; rintro e w7 ⟨Vu, rfl, u_n, hb7⟩; obtain ⟨adu, cu, rfl, ry1_u, ry2_u, ry3_u⟩ := u_n.read; clear ry1_u ry2_u ry3_u; have a_t27 := a_t25.next hb7; clear a_t25; have x_t27 := x_t25.next hb7; clear x_t25; have Ba_t27 := Ba_t25.next hb7; clear Ba_t25; have Bx_t27 := Bx_t25.next hb7; clear Bx_t25; have hw_t27 := below_next hw_t25 hb7; have hs_t27 := hb7.size; have lw0_t28 := below_next lw0_t26 hb7); go_wp2_with fail; refine hK.out _ _ ?_ (fun hHeld => ?_); (focus ((try dsimp only); (exact ⟨by rw [Ba_t27.cell]; rfl, by rw [Ba_t27.cell]; rfl, by rw [Bx_t27.cell]; rfl, by rw [Bx_t27.cell]; rfl⟩))); clear hK K; (try simp only [Act.put, pa, pb, pc]))
        (refine wpAnyH_ready (rs := [16]) (by kernel_rfl) (by simp) ?_; refine AllReadyH.cons (by (simp only [ga, gb, gc]; rfl)) (fun K hK => ?_) AllReadyH.nil; go_simp; (go_at_call 45; refine (implSameO u_n x_t27 (by omega) (by omega)).mono ?_; rintro e w8 ⟨rfl, hb8⟩; rw [sameB_refl]; have a_t29 := a_t27.next hb8; clear a_t27; have x_t29 := x_t27.next hb8; clear x_t27; have u_t29 := u_n.next hb8; clear u_n; have Ba_t29 := Ba_t27.next hb8; clear Ba_t27; have Bx_t29 := Bx_t27.next hb8; clear Bx_t27; have hw_t29 := below_next hw_t27 hb8; have hs_t29 := hb8.size; have lw0_t30 := below_next lw0_t28 hb8); go_wp2_with fail; refine hK.out _ _ ?_ (fun hHeld => ?_); (focus ((try dsimp only); (exact ⟨by rw [Ba_t29.cell]; rfl, by rw [Ba_t29.cell]; rfl, by rw [Bx_t29.cell]; rfl, by rw [Bx_t29.cell]; rfl⟩))); clear hK K; (try simp only [Act.put, pa, pb, pc]))
        (refine tkW (i := 17) (v := ?_) (by (simp only [ga, gb, gc]; rfl)) (by kernel_rfl) (by (intro _ _ _ h; exact h)) (by rfl) ?_ (by assumption) ?_; rotate_left; (focus ((intro w hSw; (try dsimp only at hSw); go_simp) <;> with_reducible rfl)); (try simp only [Act.put, pa, pb, pc]))
        (refine tkW (i := 18) (v := ?_) (by (simp only [ga, gb, gc]; rfl)) (by kernel_rfl) (by (intro _ _ _ h; exact h)) (by rfl) ?_ (by assumption) ?_; rotate_left; (focus ((intro w hSw; (try dsimp only at hSw); go_simp) <;> with_reducible rfl)); (try simp only [Act.put, pa, pb, pc]))
        refine wpAnyH_done (by kernel_rfl) ?_ _
        have qBa0 : w8.cell? ⟨w1.heap.size, 0, none⟩ = some (.int .i64 RZ) := by rw [Ba_t29.cell]; rfl
        have qBa1 : w8.cell? ⟨w1.heap.size, 1, none⟩ = some (.slice ada la.length ca) := by rw [Ba_t29.cell]; rfl
        have qBx0 : w8.cell? ⟨w2.heap.size, 0, none⟩ = some (.int .i64 RZ) := by rw [Bx_t29.cell]; rfl
        have qBx1 : w8.cell? ⟨w2.heap.size, 1, none⟩ = some (.slice adx RL.length cx) := by rw [Bx_t29.cell]; rfl
        go_wp2
        go_ret
        exact ⟨rfl, hw_t29⟩

set_option maxRecDepth 100000 in
theorem lifted (os : Os) (started : os.Started) (H : Type) (enc : TypeId × Value → H) :
    ReturnsInHanded {} Try.checked os 13 .any (Rows.fnVersTrimSpec.pre6 enc Try.prog Try.f13 Rows.fnVersTrimRow.domain false) (Rows.fnVersTrimSpec.post enc Try.prog Try.f13 false true false false) := by
  refine returnsInHanded_of_change (C := Try.checked) Whole.own started (by kernel_rfl) Try.func13
    (ChangeSpec.witness6 (enc := enc) (C := Try.checked) false ⟨#[], #[.slice none 0 0], []⟩ 8 (by kernel_rfl) (by kernel_rfl) (by kernel_rfl) (by kernel_rfl)) ?_
  intro W base args ds gs before hval0 hW hcnd _
  have hval : ∀ (j : Nat) t v, Try.f13.params[j]? = some t → args[j]? = some v → Value.okWide Try.prog W .any base t v := hval0
  have hW' := hW
  obtain ⟨p, q, hA0, hV, rfl, hfz, hnd⟩ := hW
  have hA : DataW.TrodAll enc Try.prog W 0 (fun _ => true) true Try.f13.params.toList args.toList ds p := hA0
  rw [Try.params13] at hA hval
  obtain ⟨v0, vs0, d0, ds0, p0, q0, hargs, rfl, rfl, h0, r0⟩ := trodAll_cons hA
  obtain ⟨rfl, rfl, rfl⟩ := trodAll_nil r0
  obtain rfl : args = #[v0] := by cases args; simp_all
  obtain ⟨rfl, rfl⟩ := trodVars_none hV
  have k0 := h0
  have lt0 : ∀ x ∈ p0, x.block < W.heap.size := by obtain ⟨m, hm⟩ := k0; exact DataW.trod_lt m _ _ _ hm
  obtain ⟨A0, n0, c0, rfl, hc0, hm0, hr0⟩ := openBytes (hval 0 54 v0 rfl rfl) h0
  clear hA0 hval0
  refine (walk A0 n0 c0 W hc0 hm0 hr0).mono fun e W' ⟨he, bel⟩ => ?_
  subst he
  exact ⟨_, rfl, _, _, _, [], _, [], hW', trodAll_mk1 (shut_bool Try.underlying4 _), (trodAll_cons_mk (Below.trod Whole.laidOut (by kernel_rfl) (of_decide_eq_true (by kernel_rfl)) k0 bel lt0) trodAll_mk0), rfl, bel.frame _, fun h => by cases h⟩

theorem named : Try.prog.funcNamed Rows.fnVersTrimRow.func = some 13 := by kernel_rfl
theorem closed : Whole.lawFacts Try.prog 13 Try.f13 Rows.fnVersTrimSpec Rows.fnVersTrimRow = true := by kernel_rfl
theorem inst : Try.f13.isInstance Try.prog Rows.fnVersTrimRow.origin Rows.fnVersTrimRow.targs := of_decide_eq_true (by kernel_rfl)
theorem wrap : Try.f13.isWrapper Try.prog Rows.fnVersTrimRow.wrapper Rows.fnVersTrimRow.mainSum := by
  unfold Func.isWrapper; first | (rw [if_pos (by decide +kernel)]; kernel_rfl) | (rw [if_neg (by decide +kernel)]; exact ⟨rfl, rfl⟩)
theorem over : Rows.fnVersTrimRow.holds Try.pinned (OpenSpec.ofChange Rows.fnVersTrimSpec) :=
  OpenClaim.holds_of_wide 13 Try.f13 rfl rfl rfl rfl rfl rfl rfl ⟨rfl, rfl, rfl, rfl, rfl⟩ rfl rfl rfl rfl rfl named Try.func13 (Whole.facts_of closed)
    inst wrap (fun os started H enc _ => lifted os started H enc)

theorem proved : Rows.FnVersTrimSaid := over
#print axioms proved
end Go.Proofs.Ytbhdgalkedegjaa.fnVersTrim
