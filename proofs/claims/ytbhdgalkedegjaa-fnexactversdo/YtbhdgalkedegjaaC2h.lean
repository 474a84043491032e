/- VersOk of the program. -/
import Derived.Test.YtbhdgalkedegjaaM2a
namespace Go.Proofs.Ytbhdgalkedegjaa
open Go.RowKit
set_option linter.unusedVariables false
set_option maxRecDepth 100000

set_option maxHeartbeats 1000000 in
theorem implVer (x : V) (z : Int) (w : World) (hs : x.k.size ≤ maxLen) : Calls Try.prog 63 #[.agg #[.string x.k, .int .i64 x.n, .int .i64 x.f, .int .i64 x.t], .int .i64 z] w fun e w' => e = .returned (.bool (verB z x)) ∧ Below w.heap.size w w' := by
  go_enter Try.func63, Try.ntmps63
  go_wp2_with (first | (go_at_call 102; refine (implKey _ _ hs).mono ?_; rintro e w' ⟨rfl, rfl⟩) | (go_at_call 103; refine (implNum _ _).mono ?_; rintro e w' ⟨rfl, rfl⟩))
  all_goals
    go_ret
    refine ⟨ret_bool ?_, (by (repeat (first | exact Below.refl _ _ | (refine Below.setCell ?_ (by simp <;> omega) _) | (refine Below.alloc ?_ (by simp <;> omega) _) | (refine Below.drew ?_))))⟩
    unfold verB
    first | (simp_all <;> done) | (rw [Bool.eq_iff_iff]; simp_all <;> omega)

set_option maxHeartbeats 1000000 in
theorem implInOrder (x y : V) (w : World) : Calls Try.prog 64 #[.agg #[.string x.k, .int .i64 x.n, .int .i64 x.f, .int .i64 x.t], .agg #[.string y.k, .int .i64 y.n, .int .i64 y.f, .int .i64 y.t]] w fun e w' => e = .returned (.bool (inOrdB x y)) ∧ Below w.heap.size w w' := by
  go_enter Try.func64, Try.ntmps64
  go_wp2
  all_goals
    go_ret
    refine ⟨ret_bool ?_, (by (repeat (first | exact Below.refl _ _ | (refine Below.setCell ?_ (by simp <;> omega) _) | (refine Below.alloc ?_ (by simp <;> omega) _) | (refine Below.drew ?_))))⟩
    unfold inOrdB lt
    first | (simp_all <;> done) | (rw [Bool.eq_iff_iff]; simp_all <;> omega)

set_option maxHeartbeats 4000000 in
theorem implVersOk (z : Int) (A : Option Addr) (c : Nat) (l : List V) (w : World) (hfit : FitVs l) (hlc : l.length ≤ c) (hcm : c ≤ maxLen) (hr : RdG w w.heap.size A l) :
    Calls Try.prog 23 #[.agg #[.int .i64 z, .slice A l.length c]] w fun e w' => e = .returned (.bool (versB z l)) ∧ Below w.heap.size w w' := by
  have hb0 : Below w.heap.size w (w.alloc (.cells #[.int .i64 z, .slice A l.length c] 29)) := below_alloc (Below.refl _ _) _
  have hB0 := blkA w #[.int .i64 z, .slice A l.length c] 29
  by_cases h1 : z < 0
  · have HN := Lib.hid (versB_no fun h : VersP z l => by have := h.now0; omega)
    have hd : decide (z < 0) = true := decide_eq_true h1
    go_enter Try.func23, Try.ntmps23
    go_wp2
    go_ret
    exact ⟨ret_bool HN.out.symm, hb0⟩
  have hd1 : decide (z < 0) = false := decide_eq_false h1
  by_cases h2 : 40 < z
  · have HN := Lib.hid (versB_no fun h : VersP z l => by have := h.now; omega)
    have hd : decide (40 < z) = true := decide_eq_true h2
    go_enter Try.func23, Try.ntmps23
    go_wp2
    go_ret
    exact ⟨ret_bool HN.out.symm, hb0⟩
  have hd2 : decide (40 < z) = false := decide_eq_false h2
  by_cases h3 : 60 < l.length
  · have HN := Lib.hid (versB_no fun h : VersP z l => by have := h.len; omega)
    have hd : decide (60 < l.length) = true := decide_eq_true h3
    have hd' : decide ((60 : Int) < (l.length : Int)) = true := decide_eq_true (by omega)
    go_enter Try.func23, Try.ntmps23
    go_wp2
    go_ret
    exact ⟨ret_bool HN.out.symm, hb0⟩
  have hd3 : decide (60 < l.length) = false := decide_eq_false h3
  have hd3' : decide ((60 : Int) < (l.length : Int)) = false := decide_eq_false (by omega)
  go_enter Try.func23, Try.ntmps23
  go_wp2
  clear hd1 hd2 hd3 hd3'
  go_loopw [22] (fun i W => ∃ k : Nat, k ≤ l.length ∧ i = .int .i64 k ∧ Blk W w.heap.size 29 #[.int .i64 z, .slice A l.length c] ∧ Below w.heap.size w W ∧ (∀ j (h : j < l.length), j < k → verB z l[j] = true) ∧ (∀ j (h : j + 1 < l.length), j + 1 < k → aheadB l[j] l[j + 1] = true)) (fun i _ => l.length - (intOf i).toNat)
  case atStart => exact ⟨0, Nat.zero_le _, rfl, hB0, hb0, fun j h h0 => absurd h0 (by omega), fun j h h0 => absurd h0 (by omega)⟩
  case round =>
    obtain ⟨k, hk, rfl, hB, hb, hall, hord⟩ := hrel
    have HALL := Lib.hid hall
    have HORD := Lib.hid hord
    clear hall hord
    by_cases hkl : k < l.length
    · obtain ⟨b, o, rfl, hbB, hc0, hc1, hc2, hc3⟩ := (hr.below hb).atV hkl
      have hs := (hfit _ (List.getElem_mem hkl)).1
      have hkI := lenI _ _ hkl
      have hbX : Below wr.heap.size wr (wr.alloc (.cells #[.string l[k].k, .int .i64 l[k].n, .int .i64 l[k].f, .int .i64 l[k].t] 68)) := below_alloc (Below.refl _ _) _
      have hX := blkA wr #[.string l[k].k, .int .i64 l[k].n, .int .i64 l[k].f, .int .i64 l[k].t] 68
      have hq0 : b < wr.heap.size := Nat.lt_of_lt_of_le hbB hb.size
      have hqB0 := hB.lt
      obtain ⟨wn, HW⟩ : ∃ wn, Hid (wr.alloc (.cells #[.string l[k].k, .int .i64 l[k].n, .int .i64 l[k].f, .int .i64 l[k].t] 68) = wn) := ⟨_, Lib.hid rfl⟩
      rw [HW.out] at hbX hX
      have hBn := hB.next hbX
      have q0 : wn.cell? ⟨w.heap.size, 0, none⟩ = some (.int .i64 z) := by rw [hBn.cell]; rfl
      have q1 : wn.cell? ⟨w.heap.size, 1, none⟩ = some (.slice (some ⟨b, o, none⟩) l.length c) := by rw [hBn.cell]; rfl
      have x0 : wn.cell? ⟨wr.heap.size, 0, none⟩ = some (.string l[k].k) := by rw [hX.cell]; rfl
      have x1 : wn.cell? ⟨wr.heap.size, 1, none⟩ = some (.int .i64 l[k].n) := by rw [hX.cell]; rfl
      have x2 : wn.cell? ⟨wr.heap.size, 2, none⟩ = some (.int .i64 l[k].f) := by rw [hX.cell]; rfl
      have x3 : wn.cell? ⟨wr.heap.size, 3, none⟩ = some (.int .i64 l[k].t) := by rw [hX.cell]; rfl
      have hqB := hBn.lt
      have hqX := hX.lt
      have hq : b < wn.heap.size := Nat.lt_of_lt_of_le hq0 hbX.size
      have hbN : Below w.heap.size w wn := hb.trans (hbX.mono hb.size)
      have hbT : Below wn.heap.size wn wn.drew := (Below.refl _ _).drew
      cases hv : verB z l[k]
      · have HN := Lib.hid (versB_no fun h : VersP z l => by have := h.each k hkl; rw [hv] at this; cases this)
        go_wp2
        rw [HW.out]
        clear hc0 hc1 hc2 hc3
        refine wp_region_held_drew (S := (fun W => W.cell? ⟨w.heap.size, 0, none⟩ = some (.int .i64 z) ∧ W.cell? ⟨w.heap.size, 1, none⟩ = some (.slice (some ⟨b, o, none⟩) l.length c) ∧ W.cell? ⟨wr.heap.size, 0, none⟩ = some (.string l[k].k) ∧ W.cell? ⟨wr.heap.size, 1, none⟩ = some (.int .i64 l[k].n) ∧ W.cell? ⟨wr.heap.size, 2, none⟩ = some (.int .i64 l[k].f) ∧ W.cell? ⟨wr.heap.size, 3, none⟩ = some (.int .i64 l[k].t))) (by kernel_rfl) ?_ (fun hHeld => ?_)
        focus ((try dsimp only); (first | exact ⟨q0, q1, x0, x1, x2, x3⟩ | exact ⟨(hbT.cell hqB).trans q0, (hbT.cell hqB).trans q1, (hbT.cell hqX).trans x0, (hbT.cell hqX).trans x1, (hbT.cell hqX).trans x2, (hbT.cell hqX).trans x3⟩))
        (refine tkW (i := 0) (v := ?_) (by (simp only [ga, gb, gc]; rfl)) (by kernel_rfl) (by (intro _ _ _ h; exact h)) (by rfl) ?_ (by assumption) ?_; rotate_left; (focus ((intro w hSw; (try dsimp only at hSw); go_simp) <;> with_reducible rfl)); (try simp only [Act.put, pa, pb, pc]))
        (refine tkW (i := 1) (v := ?_) (by (simp only [ga, gb, gc]; rfl)) (by kernel_rfl) (by (intro _ _ _ h; exact h)) (by rfl) ?_ (by assumption) ?_; rotate_left; (focus ((intro w hSw; (try dsimp only at hSw); go_simp) <;> with_reducible rfl)); (try simp only [Act.put, pa, pb, pc]))
        (refine tkW (i := 2) (v := ?_) (by (simp only [ga, gb, gc]; rfl)) (by kernel_rfl) (by (intro _ _ _ h; exact h)) (by rfl) ?_ (by assumption) ?_; rotate_left; (focus ((intro w hSw; (try dsimp only at hSw); go_simp) <;> with_reducible rfl)); (try simp only [Act.put, pa, pb, pc]))
        (refine wpAnyH_ready (rs := [3]) (by kernel_rfl) (by simp) ?_; refine AllReadyH.cons (by (simp only [ga, gb, gc]; rfl)) (fun K hK => ?_) AllReadyH.nil; go_simp; (go_at_call 63; refine (implVer l[k] _ _ hs).mono ?_; rintro e w' ⟨rfl, hb2⟩; rw [hv]; have hbT := hbT.trans (hb2.mono hbT.size); clear hb2); go_wp2_with fail; refine hK.out _ _ ?_ (fun hHeld => ?_); (focus ((try dsimp only); (first | exact ⟨q0, q1, x0, x1, x2, x3⟩ | exact ⟨(hbT.cell hqB).trans q0, (hbT.cell hqB).trans q1, (hbT.cell hqX).trans x0, (hbT.cell hqX).trans x1, (hbT.cell hqX).trans x2, (hbT.cell hqX).trans x3⟩))); clear hK K; (try simp only [Act.put, pa, pb, pc]))
        (refine tkW (i := 4) (v := ?_) (by (simp only [ga, gb, gc]; rfl)) (by kernel_rfl) (by (intro _ _ _ h; exact h)) (by rfl) ?_ (by assumption) ?_; rotate_left; (focus ((intro w hSw; (try dsimp only at hSw); go_simp) <;> with_reducible rfl)); (try simp only [Act.put, pa, pb, pc]))
        (refine tkW (i := 5) (v := ?_) (by (simp only [ga, gb, gc]; rfl)) (by kernel_rfl) (by (intro _ _ _ h; exact h)) (by rfl) ?_ (by assumption) ?_; rotate_left; (focus ((intro w hSw; (try dsimp only at hSw); go_simp) <;> with_reducible rfl)); (try simp only [Act.put, pa, pb, pc]))
        (refine tkS (i := 6) (by (simp only [ga, gb, gc]; rfl)) (by kernel_rfl) (by (intro _ _ _ h; exact h)) (by rfl) (by assumption) ?_; (try simp only [Act.put, pa, pb, pc]))
        (refine tkS (i := 7) (by (simp only [ga, gb, gc]; rfl)) (by kernel_rfl) (by (intro _ _ _ h; exact h)) (by rfl) (by assumption) ?_; (try simp only [Act.put, pa, pb, pc]))
        (refine tkS (i := 8) (by (simp only [ga, gb, gc]; rfl)) (by kernel_rfl) (by (intro _ _ _ h; exact h)) (by rfl) (by assumption) ?_; (try simp only [Act.put, pa, pb, pc]))
        (refine tkS (i := 9) (by (simp only [ga, gb, gc]; rfl)) (by kernel_rfl) (by (intro _ _ _ h; exact h)) (by rfl) (by assumption) ?_; (try simp only [Act.put, pa, pb, pc]))
        (refine tkS (i := 10) (by (simp only [ga, gb, gc]; rfl)) (by kernel_rfl) (by (intro _ _ _ h; exact h)) (by rfl) (by assumption) ?_; (try simp only [Act.put, pa, pb, pc]))
        (refine tkS (i := 11) (by (simp only [ga, gb, gc]; rfl)) (by kernel_rfl) (by (intro _ _ _ h; exact h)) (by rfl) (by assumption) ?_; (try simp only [Act.put, pa, pb, pc]))
        (refine tkS (i := 12) (by (simp only [ga, gb, gc]; rfl)) (by kernel_rfl) (by (intro _ _ _ h; exact h)) (by rfl) (by assumption) ?_; (try simp only [Act.put, pa, pb, pc]))
        (refine tkS (i := 13) (by (simp only [ga, gb, gc]; rfl)) (by kernel_rfl) (by (intro _ _ _ h; exact h)) (by rfl) (by assumption) ?_; (try simp only [Act.put, pa, pb, pc]))
        (refine tkS (i := 14) (by (simp only [ga, gb, gc]; rfl)) (by kernel_rfl) (by (intro _ _ _ h; exact h)) (by rfl) (by assumption) ?_; (try simp only [Act.put, pa, pb, pc]))
        (refine tkS (i := 15) (by (simp only [ga, gb, gc]; rfl)) (by kernel_rfl) (by (intro _ _ _ h; exact h)) (by rfl) (by assumption) ?_; (try simp only [Act.put, pa, pb, pc]))
        (refine tkS (i := 16) (by (simp only [ga, gb, gc]; rfl)) (by kernel_rfl) (by (intro _ _ _ h; exact h)) (by rfl) (by assumption) ?_; (try simp only [Act.put, pa, pb, pc]))
        (refine tkS (i := 17) (by (simp only [ga, gb, gc]; rfl)) (by kernel_rfl) (by (intro _ _ _ h; exact h)) (by rfl) (by assumption) ?_; (try simp only [Act.put, pa, pb, pc]))
        (refine tkS (i := 18) (by (simp only [ga, gb, gc]; rfl)) (by kernel_rfl) (by (intro _ _ _ h; exact h)) (by rfl) (by assumption) ?_; (try simp only [Act.put, pa, pb, pc]))
        (refine tkW (i := 19) (v := ?_) (by (simp only [ga, gb, gc]; rfl)) (by kernel_rfl) (by (intro _ _ _ h; exact h)) (by rfl) ?_ (by assumption) ?_; rotate_left; (focus ((intro w hSw; (try dsimp only at hSw); go_simp) <;> with_reducible rfl)); (try simp only [Act.put, pa, pb, pc]))
        refine wpAnyH_done (by kernel_rfl) ?_ _
        go_wp2
        go_ret
        exact ⟨ret_bool HN.out.symm, hbN.trans (hbT.mono hbN.size)⟩
      · by_cases hk0 : k = 0
        · have hz : decide (0 < k) = false := by simp; omega
          have H0 := Lib.hid hk0
          have HV := Lib.hid hv
          clear hk0
          go_wp2
          rw [HW.out]
          clear hc0 hc1 hc2 hc3
          refine wp_region_held_drew (S := (fun W => W.cell? ⟨w.heap.size, 0, none⟩ = some (.int .i64 z) ∧ W.cell? ⟨w.heap.size, 1, none⟩ = some (.slice (some ⟨b, o, none⟩) l.length c) ∧ W.cell? ⟨wr.heap.size, 0, none⟩ = some (.string l[k].k) ∧ W.cell? ⟨wr.heap.size, 1, none⟩ = some (.int .i64 l[k].n) ∧ W.cell? ⟨wr.heap.size, 2, none⟩ = some (.int .i64 l[k].f) ∧ W.cell? ⟨wr.heap.size, 3, none⟩ = some (.int .i64 l[k].t))) (by kernel_rfl) ?_ (fun hHeld => ?_)
          focus ((try dsimp only); (first | exact ⟨q0, q1, x0, x1, x2, x3⟩ | exact ⟨(hbT.cell hqB).trans q0, (hbT.cell hqB).trans q1, (hbT.cell hqX).trans x0, (hbT.cell hqX).trans x1, (hbT.cell hqX).trans x2, (hbT.cell hqX).trans x3⟩))
          (refine tkW (i := 0) (v := ?_) (by (simp only [ga, gb, gc]; rfl)) (by kernel_rfl) (by (intro _ _ _ h; exact h)) (by rfl) ?_ (by assumption) ?_; rotate_left; (focus ((intro w hSw; (try dsimp only at hSw); go_simp) <;> with_reducible rfl)); (try simp only [Act.put, pa, pb, pc]))
          (refine tkW (i := 1) (v := ?_) (by (simp only [ga, gb, gc]; rfl)) (by kernel_rfl) (by (intro _ _ _ h; exact h)) (by rfl) ?_ (by assumption) ?_; rotate_left; (focus ((intro w hSw; (try dsimp only at hSw); go_simp) <;> with_reducible rfl)); (try simp only [Act.put, pa, pb, pc]))
          (refine tkW (i := 2) (v := ?_) (by (simp only [ga, gb, gc]; rfl)) (by kernel_rfl) (by (intro _ _ _ h; exact h)) (by rfl) ?_ (by assumption) ?_; rotate_left; (focus ((intro w hSw; (try dsimp only at hSw); go_simp) <;> with_reducible rfl)); (try simp only [Act.put, pa, pb, pc]))
          (refine wpAnyH_ready (rs := [3]) (by kernel_rfl) (by simp) ?_; refine AllReadyH.cons (by (simp only [ga, gb, gc]; rfl)) (fun K hK => ?_) AllReadyH.nil; go_simp; (go_at_call 63; refine (implVer l[k] _ _ hs).mono ?_; rintro e w' ⟨rfl, hb2⟩; rw [hv]; have hbT := hbT.trans (hb2.mono hbT.size); clear hb2); go_wp2_with fail; refine hK.out _ _ ?_ (fun hHeld => ?_); (focus ((try dsimp only); (first | exact ⟨q0, q1, x0, x1, x2, x3⟩ | exact ⟨(hbT.cell hqB).trans q0, (hbT.cell hqB).trans q1, (hbT.cell hqX).trans x0, (hbT.cell hqX).trans x1, (hbT.cell hqX).trans x2, (hbT.cell hqX).trans x3⟩))); clear hK K; (try simp only [Act.put, pa, pb, pc]))
          (refine tkW (i := 4) (v := ?_) (by (simp only [ga, gb, gc]; rfl)) (by kernel_rfl) (by (intro _ _ _ h; exact h)) (by rfl) ?_ (by assumption) ?_; rotate_left; (focus ((intro w hSw; (try dsimp only at hSw); go_simp) <;> with_reducible rfl)); (try simp only [Act.put, pa, pb, pc]))
          (refine tkW (i := 5) (v := ?_) (by (simp only [ga, gb, gc]; rfl)) (by kernel_rfl) (by (intro _ _ _ h; exact h)) (by rfl) ?_ (by assumption) ?_; rotate_left; (focus ((intro w hSw; (try dsimp only at hSw); go_simp) <;> with_reducible rfl)); (try simp only [Act.put, pa, pb, pc]))
          (refine tkW (i := 6) (v := ?_) (by (simp only [ga, gb, gc]; rfl)) (by kernel_rfl) (by (intro _ _ _ h; exact h)) (by rfl) ?_ (by assumption) ?_; rotate_left; (focus ((intro w hSw; (try dsimp only at hSw); go_simp) <;> with_reducible rfl)); (try simp only [Act.put, pa, pb, pc]))
          (refine tkW (i := 7) (v := ?_) (by (simp only [ga, gb, gc]; rfl)) (by kernel_rfl) (by (intro _ _ _ h; exact h)) (by rfl) ?_ (by assumption) ?_; rotate_left; (focus ((intro w hSw; (try dsimp only at hSw); go_simp) <;> with_reducible rfl)); (try simp only [Act.put, pa, pb, pc]))
          (refine tkW (i := 8) (v := ?_) (by (simp only [ga, gb, gc]; rfl)) (by kernel_rfl) (by (intro _ _ _ h; exact h)) (by rfl) ?_ (by assumption) ?_; rotate_left; (focus ((intro w hSw; (try dsimp only at hSw); go_simp) <;> with_reducible rfl)); (try simp only [Act.put, pa, pb, pc]))
          (refine tkS (i := 9) (by (simp only [ga, gb, gc]; rfl)) (by kernel_rfl) (by (intro _ _ _ h; exact h)) (by rfl) (by assumption) ?_; (try simp only [Act.put, pa, pb, pc]))
          (refine tkS (i := 10) (by (simp only [ga, gb, gc]; rfl)) (by kernel_rfl) (by (intro _ _ _ h; exact h)) (by rfl) (by assumption) ?_; (try simp only [Act.put, pa, pb, pc]))
          (refine tkS (i := 11) (by (simp only [ga, gb, gc]; rfl)) (by kernel_rfl) (by (intro _ _ _ h; exact h)) (by rfl) (by assumption) ?_; (try simp only [Act.put, pa, pb, pc]))
          (refine tkS (i := 12) (by (simp only [ga, gb, gc]; rfl)) (by kernel_rfl) (by (intro _ _ _ h; exact h)) (by rfl) (by assumption) ?_; (try simp only [Act.put, pa, pb, pc]))
          (refine tkS (i := 13) (by (simp only [ga, gb, gc]; rfl)) (by kernel_rfl) (by (intro _ _ _ h; exact h)) (by rfl) (by assumption) ?_; (try simp only [Act.put, pa, pb, pc]))
          (refine tkS (i := 14) (by (simp only [ga, gb, gc]; rfl)) (by kernel_rfl) (by (intro _ _ _ h; exact h)) (by rfl) (by assumption) ?_; (try simp only [Act.put, pa, pb, pc]))
          (refine tkS (i := 15) (by (simp only [ga, gb, gc]; rfl)) (by kernel_rfl) (by (intro _ _ _ h; exact h)) (by rfl) (by assumption) ?_; (try simp only [Act.put, pa, pb, pc]))
          (refine tkS (i := 16) (by (simp only [ga, gb, gc]; rfl)) (by kernel_rfl) (by (intro _ _ _ h; exact h)) (by rfl) (by assumption) ?_; (try simp only [Act.put, pa, pb, pc]))
          (refine tkS (i := 17) (by (simp only [ga, gb, gc]; rfl)) (by kernel_rfl) (by (intro _ _ _ h; exact h)) (by rfl) (by assumption) ?_; (try simp only [Act.put, pa, pb, pc]))
          (refine tkW (i := 18) (v := ?_) (by (simp only [ga, gb, gc]; rfl)) (by kernel_rfl) (by (intro _ _ _ h; exact h)) (by rfl) ?_ (by assumption) ?_; rotate_left; (focus ((intro w hSw; (try dsimp only at hSw); go_simp) <;> with_reducible rfl)); (try simp only [Act.put, pa, pb, pc]))
          (refine tkW (i := 19) (v := ?_) (by (simp only [ga, gb, gc]; rfl)) (by kernel_rfl) (by (intro _ _ _ h; exact h)) (by rfl) ?_ (by assumption) ?_; rotate_left; (focus ((intro w hSw; (try dsimp only at hSw); go_simp) <;> with_reducible rfl)); (try simp only [Act.put, pa, pb, pc]))
          refine wpAnyH_done (by kernel_rfl) ?_ _
          go_wp2
          go_roundw
          case rel => exact ⟨k + 1, by omega, by go_num, hBn.next hbT, hbN.trans (hbT.mono hbN.size), fun j h h1 => by
            have e := H0.out
            obtain rfl : j = k := by omega
            exact HV.out, fun j h h1 => absurd h1 (by have := H0.out; omega)⟩
          case measure => simp [intOf]; omega
        · have hz : decide (0 < k) = true := by simp; omega
          obtain ⟨hp0, hp1, hp2, hp3⟩ := (hr.below hbN).fixV rfl (i := k - 1) (by omega)
          have hi1 : ((k : Int) - 1).toNat = k - 1 := by omega
          have hi2 : (0 : Int) ≤ (k : Int) - 1 := by omega
          have hi3 : (k : Int) - 1 < (l.length : Int) := by omega
          have hi4 : (1 : Int) ≤ (k : Int) := by omega
          have hi5 : (0 : Int) ≤ (k : Int) := by omega
          have hi7 : IntKind.i64.wrap ((k : Int) - 1) = (k : Int) - 1 := IntWalk.i64_in _ (by omega)
          have hae : inOrdB (l[k - 1]'(by omega)) l[k] = aheadB (l[k - 1]'(by omega)) l[k] := inOrd_ahead (HALL.out (k - 1) (by omega) (by omega))
          cases ha0 : aheadB (l[k - 1]'(by omega)) l[k]
          · have ha := hae.trans ha0
            have HN := Lib.hid (versB_no fun h : VersP z l => by
              have := h.ord (k - 1) (by omega)
              have e : k - 1 + 1 = k := by omega
              simp only [e] at this
              rw [ha0] at this; cases this)
            clear hae ha0
            go_wp2
            rw [HW.out]
            clear hc0 hc1 hc2 hc3
            refine wp_region_held_drew (S := (fun W => W.cell? ⟨w.heap.size, 0, none⟩ = some (.int .i64 z) ∧ W.cell? ⟨w.heap.size, 1, none⟩ = some (.slice (some ⟨b, o, none⟩) l.length c) ∧ W.cell? ⟨wr.heap.size, 0, none⟩ = some (.string l[k].k) ∧ W.cell? ⟨wr.heap.size, 1, none⟩ = some (.int .i64 l[k].n) ∧ W.cell? ⟨wr.heap.size, 2, none⟩ = some (.int .i64 l[k].f) ∧ W.cell? ⟨wr.heap.size, 3, none⟩ = some (.int .i64 l[k].t) ∧ W.cell? ⟨b, o + (k - 1) * 4, none⟩ = some (.string (l[k - 1]'(by omega)).k) ∧ W.cell? ⟨b, o + (k - 1) * 4 + 1, none⟩ = some (.int .i64 (l[k - 1]'(by omega)).n) ∧ W.cell? ⟨b, o + (k - 1) * 4 + 2, none⟩ = some (.int .i64 (l[k - 1]'(by omega)).f) ∧ W.cell? ⟨b, o + (k - 1) * 4 + 3, none⟩ = some (.int .i64 (l[k - 1]'(by omega)).t))) (by kernel_rfl) ?_ (fun hHeld => ?_)
            focus ((try dsimp only); (first | exact ⟨q0, q1, x0, x1, x2, x3, hp0, hp1, hp2, hp3⟩ | exact ⟨(hbT.cell hqB).trans q0, (hbT.cell hqB).trans q1, (hbT.cell hqX).trans x0, (hbT.cell hqX).trans x1, (hbT.cell hqX).trans x2, (hbT.cell hqX).trans x3, (hbT.cell hq).trans hp0, (hbT.cell hq).trans hp1, (hbT.cell hq).trans hp2, (hbT.cell hq).trans hp3⟩))
            (refine tkW (i := 0) (v := ?_) (by (simp only [ga, gb, gc]; rfl)) (by kernel_rfl) (by (intro _ _ _ h; exact h)) (by rfl) ?_ (by assumption) ?_; rotate_left; (focus ((intro w hSw; (try dsimp only at hSw); go_simp) <;> with_reducible rfl)); (try simp only [Act.put, pa, pb, pc]))
            (refine tkW (i := 1) (v := ?_) (by (simp only [ga, gb, gc]; rfl)) (by kernel_rfl) (by (intro _ _ _ h; exact h)) (by rfl) ?_ (by assumption) ?_; rotate_left; (focus ((intro w hSw; (try dsimp only at hSw); go_simp) <;> with_reducible rfl)); (try simp only [Act.put, pa, pb, pc]))
            (refine tkW (i := 2) (v := ?_) (by (simp only [ga, gb, gc]; rfl)) (by kernel_rfl) (by (intro _ _ _ h; exact h)) (by rfl) ?_ (by assumption) ?_; rotate_left; (focus ((intro w hSw; (try dsimp only at hSw); go_simp) <;> with_reducible rfl)); (try simp only [Act.put, pa, pb, pc]))
            (refine wpAnyH_ready (rs := [3]) (by kernel_rfl) (by simp) ?_; refine AllReadyH.cons (by (simp only [ga, gb, gc]; rfl)) (fun K hK => ?_) AllReadyH.nil; go_simp; (go_at_call 63; refine (implVer l[k] _ _ hs).mono ?_; rintro e w' ⟨rfl, hb2⟩; rw [hv]; have hbT := hbT.trans (hb2.mono hbT.size); clear hb2); go_wp2_with fail; refine hK.out _ _ ?_ (fun hHeld => ?_); (focus ((try dsimp only); (first | exact ⟨q0, q1, x0, x1, x2, x3, hp0, hp1, hp2, hp3⟩ | exact ⟨(hbT.cell hqB).trans q0, (hbT.cell hqB).trans q1, (hbT.cell hqX).trans x0, (hbT.cell hqX).trans x1, (hbT.cell hqX).trans x2, (hbT.cell hqX).trans x3, (hbT.cell hq).trans hp0, (hbT.cell hq).trans hp1, (hbT.cell hq).trans hp2, (hbT.cell hq).trans hp3⟩))); clear hK K; (try simp only [Act.put, pa, pb, pc]))
            (refine tkW (i := 4) (v := ?_) (by (simp only [ga, gb, gc]; rfl)) (by kernel_rfl) (by (intro _ _ _ h; exact h)) (by rfl) ?_ (by assumption) ?_; rotate_left; (focus ((intro w hSw; (try dsimp only at hSw); go_simp) <;> with_reducible rfl)); (try simp only [Act.put, pa, pb, pc]))
            (refine tkW (i := 5) (v := ?_) (by (simp only [ga, gb, gc]; rfl)) (by kernel_rfl) (by (intro _ _ _ h; exact h)) (by rfl) ?_ (by assumption) ?_; rotate_left; (focus ((intro w hSw; (try dsimp only at hSw); go_simp) <;> with_reducible rfl)); (try simp only [Act.put, pa, pb, pc]))
            (refine tkW (i := 6) (v := ?_) (by (simp only [ga, gb, gc]; rfl)) (by kernel_rfl) (by (intro _ _ _ h; exact h)) (by rfl) ?_ (by assumption) ?_; rotate_left; (focus ((intro w hSw; (try dsimp only at hSw); go_simp) <;> with_reducible rfl)); (try simp only [Act.put, pa, pb, pc]))
            (refine tkW (i := 7) (v := ?_) (by (simp only [ga, gb, gc]; rfl)) (by kernel_rfl) (by (intro _ _ _ h; exact h)) (by rfl) ?_ (by assumption) ?_; rotate_left; (focus ((intro w hSw; (try dsimp only at hSw); go_simp) <;> with_reducible rfl)); (try simp only [Act.put, pa, pb, pc]))
            (refine tkW (i := 8) (v := ?_) (by (simp only [ga, gb, gc]; rfl)) (by kernel_rfl) (by (intro _ _ _ h; exact h)) (by rfl) ?_ (by assumption) ?_; rotate_left; (focus ((intro w hSw; (try dsimp only at hSw); go_simp) <;> with_reducible rfl)); (try simp only [Act.put, pa, pb, pc]))
            (refine tkW (i := 9) (v := ?_) (by (simp only [ga, gb, gc]; rfl)) (by kernel_rfl) (by (intro _ _ _ h; exact h)) (by rfl) ?_ (by assumption) ?_; rotate_left; (focus ((intro w hSw; (try dsimp only at hSw); go_simp) <;> with_reducible rfl)); (try simp only [Act.put, pa, pb, pc]))
            (refine tkW (i := 10) (v := ?_) (by (simp only [ga, gb, gc]; rfl)) (by kernel_rfl) (by (intro _ _ _ h; exact h)) (by rfl) ?_ (by assumption) ?_; rotate_left; (focus ((intro w hSw; (try dsimp only at hSw); go_simp) <;> with_reducible rfl)); (try simp only [Act.put, pa, pb, pc]))
            (refine tkW (i := 11) (v := ?_) (by (simp only [ga, gb, gc]; rfl)) (by kernel_rfl) (by (intro _ _ _ h; exact h)) (by rfl) ?_ (by assumption) ?_; rotate_left; (focus ((intro w hSw; (try dsimp only at hSw); go_simp) <;> with_reducible rfl)); (try simp only [Act.put, pa, pb, pc]))
            (refine tkW (i := 12) (v := ?_) (by (simp only [ga, gb, gc]; rfl)) (by kernel_rfl) (by (intro _ _ _ h; exact h)) (by rfl) ?_ (by assumption) ?_; rotate_left; (focus ((intro w hSw; (try dsimp only at hSw); go_simp) <;> with_reducible rfl)); (try simp only [Act.put, pa, pb, pc]))
            (refine tkW (i := 13) (v := ?_) (by (simp only [ga, gb, gc]; rfl)) (by kernel_rfl) (by (intro _ _ _ h; exact h)) (by rfl) ?_ (by assumption) ?_; rotate_left; (focus ((intro w hSw; (try dsimp only at hSw); go_simp) <;> with_reducible rfl)); (try simp only [Act.put, pa, pb, pc]))
            (refine tkW (i := 14) (v := ?_) (by (simp only [ga, gb, gc]; rfl)) (by kernel_rfl) (by (intro _ _ _ h; exact h)) (by rfl) ?_ (by assumption) ?_; rotate_left; (focus ((intro w hSw; (try dsimp only at hSw); go_simp) <;> with_reducible rfl)); (try simp only [Act.put, pa, pb, pc]))
            (refine tkW (i := 15) (v := ?_) (by (simp only [ga, gb, gc]; rfl)) (by kernel_rfl) (by (intro _ _ _ h; exact h)) (by rfl) ?_ (by assumption) ?_; rotate_left; (focus ((intro w hSw; (try dsimp only at hSw); go_simp) <;> with_reducible rfl)); (try simp only [Act.put, pa, pb, pc]))
            (refine wpAnyH_ready (rs := [16]) (by kernel_rfl) (by simp) ?_; refine AllReadyH.cons (by (simp only [ga, gb, gc]; rfl)) (fun K hK => ?_) AllReadyH.nil; go_simp; (go_at_call 64; refine (implInOrder (l[k - 1]'(by omega)) l[k] _).mono ?_; rintro e w' ⟨rfl, hb2⟩; rw [ha]; have hbT := hbT.trans (hb2.mono hbT.size); clear hb2); go_wp2_with fail; refine hK.out _ _ ?_ (fun hHeld => ?_); (focus ((try dsimp only); (first | exact ⟨q0, q1, x0, x1, x2, x3, hp0, hp1, hp2, hp3⟩ | exact ⟨(hbT.cell hqB).trans q0, (hbT.cell hqB).trans q1, (hbT.cell hqX).trans x0, (hbT.cell hqX).trans x1, (hbT.cell hqX).trans x2, (hbT.cell hqX).trans x3, (hbT.cell hq).trans hp0, (hbT.cell hq).trans hp1, (hbT.cell hq).trans hp2, (hbT.cell hq).trans hp3⟩))); clear hK K; (try simp only [Act.put, pa, pb, pc]))
            (refine tkW (i := 17) (v := ?_) (by (simp only [ga, gb, gc]; rfl)) (by kernel_rfl) (by (intro _ _ _ h; exact h)) (by rfl) ?_ (by assumption) ?_; rotate_left; (focus ((intro w hSw; (try dsimp only at hSw); go_simp) <;> with_reducible rfl)); (try simp only [Act.put, pa, pb, pc]))
            (refine tkW (i := 18) (v := ?_) (by (simp only [ga, gb, gc]; rfl)) (by kernel_rfl) (by (intro _ _ _ h; exact h)) (by rfl) ?_ (by assumption) ?_; rotate_left; (focus ((intro w hSw; (try dsimp only at hSw); go_simp) <;> with_reducible rfl)); (try simp only [Act.put, pa, pb, pc]))
            (refine tkW (i := 19) (v := ?_) (by (simp only [ga, gb, gc]; rfl)) (by kernel_rfl) (by (intro _ _ _ h; exact h)) (by rfl) ?_ (by assumption) ?_; rotate_left; (focus ((intro w hSw; (try dsimp only at hSw); go_simp) <;> with_reducible rfl)); (try simp only [Act.put, pa, pb, pc]))
            refine wpAnyH_done (by kernel_rfl) ?_ _
            go_wp2
            go_ret
            exact ⟨ret_bool HN.out.symm, hbN.trans (hbT.mono hbN.size)⟩
          · have ha := hae.trans ha0
            have HV := Lib.hid hv
            have HA := Lib.hid ha0
            clear hae ha0
            go_wp2
            rw [HW.out]
            clear hc0 hc1 hc2 hc3
            refine wp_region_held_drew (S := (fun W => W.cell? ⟨w.heap.size, 0, none⟩ = some (.int .i64 z) ∧ W.cell? ⟨w.heap.size, 1, none⟩ = some (.slice (some ⟨b, o, none⟩) l.length c) ∧ W.cell? ⟨wr.heap.size, 0, none⟩ = some (.string l[k].k) ∧ W.cell? ⟨wr.heap.size, 1, none⟩ = some (.int .i64 l[k].n) ∧ W.cell? ⟨wr.heap.size, 2, none⟩ = some (.int .i64 l[k].f) ∧ W.cell? ⟨wr.heap.size, 3, none⟩ = some (.int .i64 l[k].t) ∧ W.cell? ⟨b, o + (k - 1) * 4, none⟩ = some (.string (l[k - 1]'(by omega)).k) ∧ W.cell? ⟨b, o + (k - 1) * 4 + 1, none⟩ = some (.int .i64 (l[k - 1]'(by omega)).n) ∧ W.cell? ⟨b, o + (k - 1) * 4 + 2, none⟩ = some (.int .i64 (l[k - 1]'(by omega)).f) ∧ W.cell? ⟨b, o + (k - 1) * 4 + 3, none⟩ = some (.int .i64 (l[k - 1]'(by omega)).t))) (by kernel_rfl) ?_ (fun hHeld => ?_)
            focus ((try dsimp only); (first | exact ⟨q0, q1, x0, x1, x2, x3, hp0, hp1, hp2, hp3⟩ | exact ⟨(hbT.cell hqB).trans q0, (hbT.cell hqB).trans q1, (hbT.cell hqX).trans x0, (hbT.cell hqX).trans x1, (hbT.cell hqX).trans x2, (hbT.cell hqX).trans x3, (hbT.cell hq).trans hp0, (hbT.cell hq).trans hp1, (hbT.cell hq).trans hp2, (hbT.cell hq).trans hp3⟩))
            (refine tkW (i := 0) (v := ?_) (by (simp only [ga, gb, gc]; rfl)) (by kernel_rfl) (by (intro _ _ _ h; exact h)) (by rfl) ?_ (by assumption) ?_; rotate_left; (focus ((intro w hSw; (try dsimp only at hSw); go_simp) <;> with_reducible rfl)); (try simp only [Act.put, pa, pb, pc]))
            (refine tkW (i := 1) (v := ?_) (by (simp only [ga, gb, gc]; rfl)) (by kernel_rfl) (by (intro _ _ _ h; exact h)) (by rfl) ?_ (by assumption) ?_; rotate_left; (focus ((intro w hSw; (try dsimp only at hSw); go_simp) <;> with_reducible rfl)); (try simp only [Act.put, pa, pb, pc]))
            (refine tkW (i := 2) (v := ?_) (by (simp only [ga, gb, gc]; rfl)) (by kernel_rfl) (by (intro _ _ _ h; exact h)) (by rfl) ?_ (by assumption) ?_; rotate_left; (focus ((intro w hSw; (try dsimp only at hSw); go_simp) <;> with_reducible rfl)); (try simp only [Act.put, pa, pb, pc]))
            (refine wpAnyH_ready (rs := [3]) (by kernel_rfl) (by simp) ?_; refine AllReadyH.cons (by (simp only [ga, gb, gc]; rfl)) (fun K hK => ?_) AllReadyH.nil; go_simp; (go_at_call 63; refine (implVer l[k] _ _ hs).mono ?_; rintro e w' ⟨rfl, hb2⟩; rw [hv]; have hbT := hbT.trans (hb2.mono hbT.size); clear hb2); go_wp2_with fail; refine hK.out _ _ ?_ (fun hHeld => ?_); (focus ((try dsimp only); (first | exact ⟨q0, q1, x0, x1, x2, x3, hp0, hp1, hp2, hp3⟩ | exact ⟨(hbT.cell hqB).trans q0, (hbT.cell hqB).trans q1, (hbT.cell hqX).trans x0, (hbT.cell hqX).trans x1, (hbT.cell hqX).trans x2, (hbT.cell hqX).trans x3, (hbT.cell hq).trans hp0, (hbT.cell hq).trans hp1, (hbT.cell hq).trans hp2, (hbT.cell hq).trans hp3⟩))); clear hK K; (try simp only [Act.put, pa, pb, pc]))
            (refine tkW (i := 4) (v := ?_) (by (simp only [ga, gb, gc]; rfl)) (by kernel_rfl) (by (intro _ _ _ h; exact h)) (by rfl) ?_ (by assumption) ?_; rotate_left; (focus ((intro w hSw; (try dsimp only at hSw); go_simp) <;> with_reducible rfl)); (try simp only [Act.put, pa, pb, pc]))
            (refine tkW (i := 5) (v := ?_) (by (simp only [ga, gb, gc]; rfl)) (by kernel_rfl) (by (intro _ _ _ h; exact h)) (by rfl) ?_ (by assumption) ?_; rotate_left; (focus ((intro w hSw; (try dsimp only at hSw); go_simp) <;> with_reducible rfl)); (try simp only [Act.put, pa, pb, pc]))
            (refine tkW (i := 6) (v := ?_) (by (simp only [ga, gb, gc]; rfl)) (by kernel_rfl) (by (intro _ _ _ h; exact h)) (by rfl) ?_ (by assumption) ?_; rotate_left; (focus ((intro w hSw; (try dsimp only at hSw); go_simp) <;> with_reducible rfl)); (try simp only [Act.put, pa, pb, pc]))
            (refine tkW (i := 7) (v := ?_) (by (simp only [ga, gb, gc]; rfl)) (by kernel_rfl) (by (intro _ _ _ h; exact h)) (by rfl) ?_ (by assumption) ?_; rotate_left; (focus ((intro w hSw; (try dsimp only at hSw); go_simp) <;> with_reducible rfl)); (try simp only [Act.put, pa, pb, pc]))
            (refine tkW (i := 8) (v := ?_) (by (simp only [ga, gb, gc]; rfl)) (by kernel_rfl) (by (intro _ _ _ h; exact h)) (by rfl) ?_ (by assumption) ?_; rotate_left; (focus ((intro w hSw; (try dsimp only at hSw); go_simp) <;> with_reducible rfl)); (try simp only [Act.put, pa, pb, pc]))
            (refine tkW (i := 9) (v := ?_) (by (simp only [ga, gb, gc]; rfl)) (by kernel_rfl) (by (intro _ _ _ h; exact h)) (by rfl) ?_ (by assumption) ?_; rotate_left; (focus ((intro w hSw; (try dsimp only at hSw); go_simp) <;> with_reducible rfl)); (try simp only [Act.put, pa, pb, pc]))
            (refine tkW (i := 10) (v := ?_) (by (simp only [ga, gb, gc]; rfl)) (by kernel_rfl) (by (intro _ _ _ h; exact h)) (by rfl) ?_ (by assumption) ?_; rotate_left; (focus ((intro w hSw; (try dsimp only at hSw); go_simp) <;> with_reducible rfl)); (try simp only [Act.put, pa, pb, pc]))
            (refine tkW (i := 11) (v := ?_) (by (simp only [ga, gb, gc]; rfl)) (by kernel_rfl) (by (intro _ _ _ h; exact h)) (by rfl) ?_ (by assumption) ?_; rotate_left; (focus ((intro w hSw; (try dsimp only at hSw); go_simp) <;> with_reducible rfl)); (try simp only [Act.put, pa, pb, pc]))
            (refine tkW (i := 12) (v := ?_) (by (simp only [ga, gb, gc]; rfl)) (by kernel_rfl) (by (intro _ _ _ h; exact h)) (by rfl) ?_ (by assumption) ?_; rotate_left; (focus ((intro w hSw; (try dsimp only at hSw); go_simp) <;> with_reducible rfl)); (try simp only [Act.put, pa, pb, pc]))
            (refine tkW (i := 13) (v := ?_) (by (simp only [ga, gb, gc]; rfl)) (by kernel_rfl) (by (intro _ _ _ h; exact h)) (by rfl) ?_ (by assumption) ?_; rotate_left; (focus ((intro w hSw; (try dsimp only at hSw); go_simp) <;> with_reducible rfl)); (try simp only [Act.put, pa, pb, pc]))
            (refine tkW (i := 14) (v := ?_) (by (simp only [ga, gb, gc]; rfl)) (by kernel_rfl) (by (intro _ _ _ h; exact h)) (by rfl) ?_ (by assumption) ?_; rotate_left; (focus ((intro w hSw; (try dsimp only at hSw); go_simp) <;> with_reducible rfl)); (try simp only [Act.put, pa, pb, pc]))
            (refine tkW (i := 15) (v := ?_) (by (simp only [ga, gb, gc]; rfl)) (by kernel_rfl) (by (intro _ _ _ h; exact h)) (by rfl) ?_ (by assumption) ?_; rotate_left; (focus ((intro w hSw; (try dsimp only at hSw); go_simp) <;> with_reducible rfl)); (try simp only [Act.put, pa, pb, pc]))
            (refine wpAnyH_ready (rs := [16]) (by kernel_rfl) (by simp) ?_; refine AllReadyH.cons (by (simp only [ga, gb, gc]; rfl)) (fun K hK => ?_) AllReadyH.nil; go_simp; (go_at_call 64; refine (implInOrder (l[k - 1]'(by omega)) l[k] _).mono ?_; rintro e w' ⟨rfl, hb2⟩; rw [ha]; have hbT := hbT.trans (hb2.mono hbT.size); clear hb2); go_wp2_with fail; refine hK.out _ _ ?_ (fun hHeld => ?_); (focus ((try dsimp only); (first | exact ⟨q0, q1, x0, x1, x2, x3, hp0, hp1, hp2, hp3⟩ | exact ⟨(hbT.cell hqB).trans q0, (hbT.cell hqB).trans q1, (hbT.cell hqX).trans x0, (hbT.cell hqX).trans x1, (hbT.cell hqX).trans x2, (hbT.cell hqX).trans x3, (hbT.cell hq).trans hp0, (hbT.cell hq).trans hp1, (hbT.cell hq).trans hp2, (hbT.cell hq).trans hp3⟩))); clear hK K; (try simp only [Act.put, pa, pb, pc]))
            (refine tkW (i := 17) (v := ?_) (by (simp only [ga, gb, gc]; rfl)) (by kernel_rfl) (by (intro _ _ _ h; exact h)) (by rfl) ?_ (by assumption) ?_; rotate_left; (focus ((intro w hSw; (try dsimp only at hSw); go_simp) <;> with_reducible rfl)); (try simp only [Act.put, pa, pb, pc]))
            (refine tkW (i := 18) (v := ?_) (by (simp only [ga, gb, gc]; rfl)) (by kernel_rfl) (by (intro _ _ _ h; exact h)) (by rfl) ?_ (by assumption) ?_; rotate_left; (focus ((intro w hSw; (try dsimp only at hSw); go_simp) <;> with_reducible rfl)); (try simp only [Act.put, pa, pb, pc]))
            (refine tkW (i := 19) (v := ?_) (by (simp only [ga, gb, gc]; rfl)) (by kernel_rfl) (by (intro _ _ _ h; exact h)) (by rfl) ?_ (by assumption) ?_; rotate_left; (focus ((intro w hSw; (try dsimp only at hSw); go_simp) <;> with_reducible rfl)); (try simp only [Act.put, pa, pb, pc]))
            refine wpAnyH_done (by kernel_rfl) ?_ _
            go_wp2
            go_roundw
            case rel => exact ⟨k + 1, by omega, by go_num, hBn.next hbT, hbN.trans (hbT.mono hbN.size), fun j h h1 => by
              by_cases e : j = k
              · subst e; exact HV.out
              · exact HALL.out j h (by omega), fun j h h1 => by
              by_cases e : j + 1 = k
              · have := HA.out
                have e2 : k - 1 = j := by omega
                simp only [e2] at this
                simpa [e] using this
              · exact HORD.out j h (by omega)⟩
            case measure => simp [intOf]; omega
    · have hkI : decide ((k : Int) < (l.length : Int)) = false := decide_eq_false (by omega)
      have HK := Lib.hid (show k = l.length from by omega)
      have q0 : wr.cell? ⟨w.heap.size, 0, none⟩ = some (.int .i64 z) := by rw [hB.cell]; rfl
      have q1 : wr.cell? ⟨w.heap.size, 1, none⟩ = some (.slice A l.length c) := by rw [hB.cell]; rfl
      have hall : ∀ i (h : i < l.length), verB z l[i] = true := fun i h => HALL.out i h (by have := HK.out; omega)
      have hord : ∀ i (h : i + 1 < l.length), aheadB l[i] l[i + 1] = true := fun i h => HORD.out i h (by have := HK.out; omega)
      have ho := ord2_of hall fun i h => beh_of_ahead (hord i h)
      have HP := Lib.hid (fun chs (hC : Cons chs l) => (show fitB z chs = versB z l from by
        by_cases hf : ∀ t : Int, 0 ≤ t → t ≤ z → (atL l t).length ≤ 10
        · rw [fitB_yes fun t h0 h1 => by rw [snap_at hC ho]; exact hf t h0 h1, versB_yes ⟨by omega, by omega, by omega, hall, hord, hf⟩]
        · rw [versB_no fun h => hf h.few]
          unfold fitB
          simp only [decide_eq_false_iff_not]
          intro hh
          exact hf fun t h0 h1 => by have := hh t h0 h1; rwa [snap_at hC ho] at this))
      have hkle := ho.keyLe
      have HKL := Lib.hid hkle
      clear hall hord ho hkle
      have hr2 := (hr.below hb).more hb.size
      go_wp2_with fail
      refine (storageOf_c z A c l wr (by omega) HKL.out hr2).mono ?_
      rintro e w3 ⟨s, chs, rfl, hS, hC, hb3⟩
      have HE := Lib.hid (HP.out chs hC)
      go_wp2_with fail
      refine (fit_c wr.heap.size s z chs w3 hS (by omega) (by have := hC.length; omega)).mono ?_
      rintro e w4 ⟨rfl, hb4⟩
      rw [HE.out]
      go_wp2
      go_ret
      exact ⟨rfl, hb.trans ((below_next hb3 hb4).mono hb.size)⟩

theorem implVersOkO {v : Value} {z : Int} {l : List V} {base : Nat} {w : World} (h : OwnG w base v l) (hf : FitVs l) :
    Calls Try.prog 23 #[.agg #[.int .i64 z, v]] w fun e w' => e = .returned (.bool (versB z l)) ∧ Below w.heap.size w w' := by
  obtain ⟨A, c, rfl, h1, h2, hr⟩ := h.read
  exact implVersOk z A c l w hf h1 h2 hr
theorem specVersOkO {v : Value} {z : Int} {l : List V} {base : Nat} {w : World} (h : OwnG w base v l) (hf : FitVs l) :
    Calls Try.prog 21 #[.agg #[.int .i64 z, v]] w fun e w' => e = .returned (.bool (versB z l)) ∧ Below w.heap.size w w' := by
  obtain ⟨A, c, rfl, h1, h2, hr⟩ := h.read
  exact specVersOk z A c l w hf h1 h2 hr

end Go.Proofs.Ytbhdgalkedegjaa
