/- Chapter 2, the model: when all that ever stood is right. -/
import Derived.Test.YtnijgbinjbikbaaGreatB1
namespace Go.Proofs.YtnijgbinjbikbaaGreat
open Go.RowKit
set_option linter.unusedVariables false
set_option maxRecDepth 100000

/-- all that ever stood is right -/
structure VersP (z : Int) (l : List V) : Prop where
 now0 : 0 ≤ z
 now : z ≤ 40
 len : l.length ≤ 60
 each : ∀ i (h : i < l.length), verB z l[i] = true
 ord : ∀ i (h : i + 1 < l.length), aheadB l[i] l[i + 1] = true
 few : ∀ t : Int, 0 ≤ t → t ≤ z → (atL l t).length ≤ 10
open Classical in
noncomputable def versB (z : Int) (l : List V) : Bool := decide (VersP z l)
theorem versB_yes {z : Int} {l : List V} (h : VersP z l) : versB z l = true := by unfold versB; simp [h]
theorem versB_no {z : Int} {l : List V} (h : ¬ VersP z l) : versB z l = false := by unfold versB; simp [h]
theorem versB_iff {z : Int} {l : List V} : versB z l = true ↔ VersP z l := by unfold versB; simp

set_option maxHeartbeats 4000000 in
theorem specVersOk (z : Int) (A : Option Addr) (c : Nat) (l : List V) (w : World) (hfit : FitVs l) (hlc : l.length ≤ c) (hcm : c ≤ maxLen) (hr : RdG w w.heap.size A l) :
  Calls Tryz.prog 28 #[.agg #[.int .i64 z, .slice A l.length c]] w fun e w' => e = .returned (.bool (versB z l)) ∧ Below w.heap.size w w' := by
 have hb0 : Below w.heap.size w (w.alloc (.cells #[.int .i64 z, .slice A l.length c] 32)) := below_alloc (Below.refl _ _) _
 have hB0 := blkA w #[.int .i64 z, .slice A l.length c] 32
 by_cases h1 : z < 0
 ·
  have HN := Lib.hid (versB_no fun h : VersP z l => by have := h.now0; omega)
  have hd : decide (z < 0) = true := decide_eq_true h1
  go_enter Tryz.func28, Tryz.ntmps28
  go_wp2
  go_ret
  exact ⟨ret_bool HN.out.symm, hb0⟩
 have hd1 : decide (z < 0) = false := decide_eq_false h1
 by_cases h2 : 40 < z
 ·
  have HN := Lib.hid (versB_no fun h : VersP z l => by have := h.now; omega)
  have hd : decide (40 < z) = true := decide_eq_true h2
  go_enter Tryz.func28, Tryz.ntmps28
  go_wp2
  go_ret
  exact ⟨ret_bool HN.out.symm, hb0⟩
 have hd2 : decide (40 < z) = false := decide_eq_false h2
 by_cases h3 : 60 < l.length
 ·
  have HN := Lib.hid (versB_no fun h : VersP z l => by have := h.len; omega)
  have hd : decide (60 < l.length) = true := decide_eq_true h3
  have hd' : decide ((60 : Int) < (l.length : Int)) = true := decide_eq_true (by omega)
  go_enter Tryz.func28, Tryz.ntmps28
  go_wp2
  go_ret
  exact ⟨ret_bool HN.out.symm, hb0⟩
 have hd3 : decide (60 < l.length) = false := decide_eq_false h3
 have hd3' : decide ((60 : Int) < (l.length : Int)) = false := decide_eq_false (by omega)
 go_enter Tryz.func28, Tryz.ntmps28
 go_wp2
 clear hd1 hd2 hd3 hd3'
 go_loopw [3] (fun i W => ∃ k : Nat, k ≤ l.length ∧ i = .int .i64 k ∧ Blk W w.heap.size 32 #[.int .i64 z, .slice A l.length c] ∧ Below w.heap.size w W ∧ (∀ j (h : j < l.length), j < k → verB z l[j] = true) ∧ (∀ j (h : j + 1 < l.length), j + 1 < k → aheadB l[j] l[j + 1] = true)) (fun i _ => l.length - (intOf i).toNat)
 case atStart => exact ⟨0, Nat.zero_le _, rfl, hB0, hb0, fun j h h0 => absurd h0 (by omega), fun j h h0 => absurd h0 (by omega)⟩
 case round =>
  obtain ⟨k, hk, rfl, hB, hb, hall, hord⟩ := hrel
  have HALL := Lib.hid hall
  have HORD := Lib.hid hord
  clear hall hord
  have c0 : wr.cell? ⟨w.heap.size, 0, none⟩ = some (.int .i64 z) := by rw [hB.cell]; rfl
  have c1 : wr.cell? ⟨w.heap.size, 1, none⟩ = some (.slice A l.length c) := by rw [hB.cell]; rfl
  have hqB := hB.lt
  by_cases hkl : k < l.length
  ·
   obtain ⟨b, o, rfl, hbB, hc0, hc1, hc2, hc3⟩ := (hr.below hb).atV hkl
   have hq : b < wr.heap.size := Nat.lt_of_lt_of_le hbB hb.size
   have hs := (hfit _ (List.getElem_mem hkl)).1
   have hkI := lenI _ _ hkl
   have hbT : Below wr.heap.size wr wr.drew := (Below.refl _ _).drew
   cases hv : verB z l[k]
   ·
    have HN := Lib.hid (versB_no fun h : VersP z l => by have := h.each k hkl; rw [hv] at this; cases this)
    go_wp2
    refine wp_region_held_drew (S := (fun W => W.cell? ⟨w.heap.size, 0, none⟩ = some (.int .i64 z) ∧ W.cell? ⟨w.heap.size, 1, none⟩ = some (.slice (some ⟨b, o, none⟩) l.length c) ∧ W.cell? ⟨b, o + k * 4, none⟩ = some (.string l[k].k) ∧ W.cell? ⟨b, o + k * 4 + 1, none⟩ = some (.int .i64 l[k].n) ∧ W.cell? ⟨b, o + k * 4 + 2, none⟩ = some (.int .i64 l[k].f) ∧ W.cell? ⟨b, o + k * 4 + 3, none⟩ = some (.int .i64 l[k].t))) (by kernel_rfl) ?_ (fun hHeld => ?_)
    focus ((try dsimp only); (first | exact ⟨c0, c1, hc0, hc1, hc2, hc3⟩ | exact ⟨(hbT.cell hqB).trans c0, (hbT.cell hqB).trans c1, (hbT.cell hq).trans hc0, (hbT.cell hq).trans hc1, (hbT.cell hq).trans hc2, (hbT.cell hq).trans hc3⟩))
    first | refine tk 0 ?_ | refine ts 0 ?_
    first | refine tk 1 ?_ | refine ts 1 ?_
    first | refine tk 2 ?_ | refine ts 2 ?_
    first | refine tk 3 ?_ | refine ts 3 ?_
    first | refine tk 4 ?_ | refine ts 4 ?_
    first | refine tk 5 ?_ | refine ts 5 ?_
    first | refine tk 6 ?_ | refine ts 6 ?_
    first
     | refine ts 7 ?_
     | (refine rd1 7 (fun K hK => ?_); go_simp; (go_at_call 54; refine (specVer l[k] _ _ hs).mono ?_; rintro e w' ⟨rfl, hb2⟩; rw [hv]; have hbT := hbT.trans (hb2.mono hbT.size); clear hb2); go_wp2_with fail; refine hK.out _ _ ?_ (fun hHeld => ?_); (focus ((try dsimp only); (first | exact ⟨c0, c1, hc0, hc1, hc2, hc3⟩ | exact ⟨(hbT.cell hqB).trans c0, (hbT.cell hqB).trans c1, (hbT.cell hq).trans hc0, (hbT.cell hq).trans hc1, (hbT.cell hq).trans hc2, (hbT.cell hq).trans hc3⟩))); clear hK K; (try simp only [Act.put, List.setIfInBounds_toArray, List.set_cons_zero, List.set_cons_succ]))
    first | refine tk 8 ?_ | refine ts 8 ?_
    first | refine tk 9 ?_ | refine ts 9 ?_
    first | refine tk 10 ?_ | refine ts 10 ?_
    first | refine tk 11 ?_ | refine ts 11 ?_
    first | refine tk 12 ?_ | refine ts 12 ?_
    first | refine tk 13 ?_ | refine ts 13 ?_
    first | refine tk 14 ?_ | refine ts 14 ?_
    first | refine tk 15 ?_ | refine ts 15 ?_
    first | refine tk 16 ?_ | refine ts 16 ?_
    first | refine tk 17 ?_ | refine ts 17 ?_
    first | refine tk 18 ?_ | refine ts 18 ?_
    first | refine tk 19 ?_ | refine ts 19 ?_
    first | refine tk 20 ?_ | refine ts 20 ?_
    first | refine tk 21 ?_ | refine ts 21 ?_
    first | refine tk 22 ?_ | refine ts 22 ?_
    first | refine tk 23 ?_ | refine ts 23 ?_
    first
     | refine ts 24 ?_
     | (refine rd1 24 (fun K hK => ?_); go_simp; (go_at_call 55; refine (specAhead (l[k - 1]'(by omega)) l[k] _).mono ?_; rintro e w' ⟨rfl, hb2⟩; rw [ha]; have hbT := hbT.trans (hb2.mono hbT.size); clear hb2); go_wp2_with fail; refine hK.out _ _ ?_ (fun hHeld => ?_); (focus ((try dsimp only); (first | exact ⟨c0, c1, hc0, hc1, hc2, hc3⟩ | exact ⟨(hbT.cell hqB).trans c0, (hbT.cell hqB).trans c1, (hbT.cell hq).trans hc0, (hbT.cell hq).trans hc1, (hbT.cell hq).trans hc2, (hbT.cell hq).trans hc3⟩))); clear hK K; (try simp only [Act.put, List.setIfInBounds_toArray, List.set_cons_zero, List.set_cons_succ]))
    first | refine tk 25 ?_ | refine ts 25 ?_
    first | refine tk 26 ?_ | refine ts 26 ?_
    first | refine tk 27 ?_ | refine ts 27 ?_
    refine wpAnyH_done (by kernel_rfl) ?_ _
    go_wp2
    go_ret
    exact ⟨ret_bool HN.out.symm, hb.trans (hbT.mono hb.size)⟩
   ·
    by_cases hk0 : k = 0
    ·
     have hz : decide (0 < k) = false := by simp; omega
     have H0 := Lib.hid hk0
     have HV := Lib.hid hv
     clear hk0
     go_wp2
     refine wp_region_held_drew (S := (fun W => W.cell? ⟨w.heap.size, 0, none⟩ = some (.int .i64 z) ∧ W.cell? ⟨w.heap.size, 1, none⟩ = some (.slice (some ⟨b, o, none⟩) l.length c) ∧ W.cell? ⟨b, o + k * 4, none⟩ = some (.string l[k].k) ∧ W.cell? ⟨b, o + k * 4 + 1, none⟩ = some (.int .i64 l[k].n) ∧ W.cell? ⟨b, o + k * 4 + 2, none⟩ = some (.int .i64 l[k].f) ∧ W.cell? ⟨b, o + k * 4 + 3, none⟩ = some (.int .i64 l[k].t))) (by kernel_rfl) ?_ (fun hHeld => ?_)
     focus ((try dsimp only); (first | exact ⟨c0, c1, hc0, hc1, hc2, hc3⟩ | exact ⟨(hbT.cell hqB).trans c0, (hbT.cell hqB).trans c1, (hbT.cell hq).trans hc0, (hbT.cell hq).trans hc1, (hbT.cell hq).trans hc2, (hbT.cell hq).trans hc3⟩))
     first | refine tk 0 ?_ | refine ts 0 ?_
     first | refine tk 1 ?_ | refine ts 1 ?_
     first | refine tk 2 ?_ | refine ts 2 ?_
     first | refine tk 3 ?_ | refine ts 3 ?_
     first | refine tk 4 ?_ | refine ts 4 ?_
     first | refine tk 5 ?_ | refine ts 5 ?_
     first | refine tk 6 ?_ | refine ts 6 ?_
     first
      | refine ts 7 ?_
      | (refine rd1 7 (fun K hK => ?_); go_simp; (go_at_call 54; refine (specVer l[k] _ _ hs).mono ?_; rintro e w' ⟨rfl, hb2⟩; rw [hv]; have hbT := hbT.trans (hb2.mono hbT.size); clear hb2); go_wp2_with fail; refine hK.out _ _ ?_ (fun hHeld => ?_); (focus ((try dsimp only); (first | exact ⟨c0, c1, hc0, hc1, hc2, hc3⟩ | exact ⟨(hbT.cell hqB).trans c0, (hbT.cell hqB).trans c1, (hbT.cell hq).trans hc0, (hbT.cell hq).trans hc1, (hbT.cell hq).trans hc2, (hbT.cell hq).trans hc3⟩))); clear hK K; (try simp only [Act.put, List.setIfInBounds_toArray, List.set_cons_zero, List.set_cons_succ]))
     first | refine tk 8 ?_ | refine ts 8 ?_
     first | refine tk 9 ?_ | refine ts 9 ?_
     first | refine tk 10 ?_ | refine ts 10 ?_
     first | refine tk 11 ?_ | refine ts 11 ?_
     first | refine tk 12 ?_ | refine ts 12 ?_
     first | refine tk 13 ?_ | refine ts 13 ?_
     first | refine tk 14 ?_ | refine ts 14 ?_
     first | refine tk 15 ?_ | refine ts 15 ?_
     first | refine tk 16 ?_ | refine ts 16 ?_
     first | refine tk 17 ?_ | refine ts 17 ?_
     first | refine tk 18 ?_ | refine ts 18 ?_
     first | refine tk 19 ?_ | refine ts 19 ?_
     first | refine tk 20 ?_ | refine ts 20 ?_
     first | refine tk 21 ?_ | refine ts 21 ?_
     first | refine tk 22 ?_ | refine ts 22 ?_
     first | refine tk 23 ?_ | refine ts 23 ?_
     first
      | refine ts 24 ?_
      | (refine rd1 24 (fun K hK => ?_); go_simp; (go_at_call 55; refine (specAhead (l[k - 1]'(by omega)) l[k] _).mono ?_; rintro e w' ⟨rfl, hb2⟩; rw [ha]; have hbT := hbT.trans (hb2.mono hbT.size); clear hb2); go_wp2_with fail; refine hK.out _ _ ?_ (fun hHeld => ?_); (focus ((try dsimp only); (first | exact ⟨c0, c1, hc0, hc1, hc2, hc3⟩ | exact ⟨(hbT.cell hqB).trans c0, (hbT.cell hqB).trans c1, (hbT.cell hq).trans hc0, (hbT.cell hq).trans hc1, (hbT.cell hq).trans hc2, (hbT.cell hq).trans hc3⟩))); clear hK K; (try simp only [Act.put, List.setIfInBounds_toArray, List.set_cons_zero, List.set_cons_succ]))
     first | refine tk 25 ?_ | refine ts 25 ?_
     first | refine tk 26 ?_ | refine ts 26 ?_
     first | refine tk 27 ?_ | refine ts 27 ?_
     refine wpAnyH_done (by kernel_rfl) ?_ _
     go_wp2
     go_roundw
     case rel => exact ⟨k + 1, by omega, by go_num, hB.next hbT, hb.trans (hbT.mono hb.size), fun j h h1 => by
      have e := H0.out
      obtain rfl : j = k := by omega
      exact HV.out, fun j h h1 => absurd h1 (by have := H0.out; omega)⟩
     case measure => simp [intOf]; omega
    ·
     have hz : decide (0 < k) = true := by simp; omega
     obtain ⟨hp0, hp1, hp2, hp3⟩ := (hr.below hb).fixV rfl (i := k - 1) (by omega)
     have hi1 : ((k : Int) - 1).toNat = k - 1 := by omega
     have hi2 : (0 : Int) ≤ (k : Int) - 1 := by omega
     have hi3 : (k : Int) - 1 < (l.length : Int) := by omega
     have hi4 : (1 : Int) ≤ (k : Int) := by omega
     have hi5 : (0 : Int) ≤ (k : Int) := by omega
     have hi7 : IntKind.i64.wrap ((k : Int) - 1) = (k : Int) - 1 := IntWalk.i64_in _ (by omega)
     cases ha : aheadB (l[k - 1]'(by omega)) l[k]
     ·
      have HN := Lib.hid (versB_no fun h : VersP z l => by
       have := h.ord (k - 1) (by omega)
       have e : k - 1 + 1 = k := by omega
       simp only [e] at this
       rw [ha] at this; cases this)
      go_wp2
      refine wp_region_held_drew (S := (fun W => W.cell? ⟨w.heap.size, 0, none⟩ = some (.int .i64 z) ∧ W.cell? ⟨w.heap.size, 1, none⟩ = some (.slice (some ⟨b, o, none⟩) l.length c) ∧ W.cell? ⟨b, o + k * 4, none⟩ = some (.string l[k].k) ∧ W.cell? ⟨b, o + k * 4 + 1, none⟩ = some (.int .i64 l[k].n) ∧ W.cell? ⟨b, o + k * 4 + 2, none⟩ = some (.int .i64 l[k].f) ∧ W.cell? ⟨b, o + k * 4 + 3, none⟩ = some (.int .i64 l[k].t) ∧ W.cell? ⟨b, o + (k - 1) * 4, none⟩ = some (.string (l[k - 1]'(by omega)).k) ∧ W.cell? ⟨b, o + (k - 1) * 4 + 1, none⟩ = some (.int .i64 (l[k - 1]'(by omega)).n) ∧ W.cell? ⟨b, o + (k - 1) * 4 + 2, none⟩ = some (.int .i64 (l[k - 1]'(by omega)).f) ∧ W.cell? ⟨b, o + (k - 1) * 4 + 3, none⟩ = some (.int .i64 (l[k - 1]'(by omega)).t))) (by kernel_rfl) ?_ (fun hHeld => ?_)
      focus ((try dsimp only); (first | exact ⟨c0, c1, hc0, hc1, hc2, hc3, hp0, hp1, hp2, hp3⟩ | exact ⟨(hbT.cell hqB).trans c0, (hbT.cell hqB).trans c1, (hbT.cell hq).trans hc0, (hbT.cell hq).trans hc1, (hbT.cell hq).trans hc2, (hbT.cell hq).trans hc3, (hbT.cell hq).trans hp0, (hbT.cell hq).trans hp1, (hbT.cell hq).trans hp2, (hbT.cell hq).trans hp3⟩))
      first | refine tk 0 ?_ | refine ts 0 ?_
      first | refine tk 1 ?_ | refine ts 1 ?_
      first | refine tk 2 ?_ | refine ts 2 ?_
      first | refine tk 3 ?_ | refine ts 3 ?_
      first | refine tk 4 ?_ | refine ts 4 ?_
      first | refine tk 5 ?_ | refine ts 5 ?_
      first | refine tk 6 ?_ | refine ts 6 ?_
      first
       | refine ts 7 ?_
       | (refine rd1 7 (fun K hK => ?_); go_simp; (go_at_call 54; refine (specVer l[k] _ _ hs).mono ?_; rintro e w' ⟨rfl, hb2⟩; rw [hv]; have hbT := hbT.trans (hb2.mono hbT.size); clear hb2); go_wp2_with fail; refine hK.out _ _ ?_ (fun hHeld => ?_); (focus ((try dsimp only); (first | exact ⟨c0, c1, hc0, hc1, hc2, hc3, hp0, hp1, hp2, hp3⟩ | exact ⟨(hbT.cell hqB).trans c0, (hbT.cell hqB).trans c1, (hbT.cell hq).trans hc0, (hbT.cell hq).trans hc1, (hbT.cell hq).trans hc2, (hbT.cell hq).trans hc3, (hbT.cell hq).trans hp0, (hbT.cell hq).trans hp1, (hbT.cell hq).trans hp2, (hbT.cell hq).trans hp3⟩))); clear hK K; (try simp only [Act.put, List.setIfInBounds_toArray, List.set_cons_zero, List.set_cons_succ]))
      first | refine tk 8 ?_ | refine ts 8 ?_
      first | refine tk 9 ?_ | refine ts 9 ?_
      first | refine tk 10 ?_ | refine ts 10 ?_
      first | refine tk 11 ?_ | refine ts 11 ?_
      first | refine tk 12 ?_ | refine ts 12 ?_
      first | refine tk 13 ?_ | refine ts 13 ?_
      first | refine tk 14 ?_ | refine ts 14 ?_
      first | refine tk 15 ?_ | refine ts 15 ?_
      first | refine tk 16 ?_ | refine ts 16 ?_
      first | refine tk 17 ?_ | refine ts 17 ?_
      first | refine tk 18 ?_ | refine ts 18 ?_
      first | refine tk 19 ?_ | refine ts 19 ?_
      first | refine tk 20 ?_ | refine ts 20 ?_
      first | refine tk 21 ?_ | refine ts 21 ?_
      first | refine tk 22 ?_ | refine ts 22 ?_
      first | refine tk 23 ?_ | refine ts 23 ?_
      first
       | refine ts 24 ?_
       | (refine rd1 24 (fun K hK => ?_); go_simp; (go_at_call 55; refine (specAhead (l[k - 1]'(by omega)) l[k] _).mono ?_; rintro e w' ⟨rfl, hb2⟩; rw [ha]; have hbT := hbT.trans (hb2.mono hbT.size); clear hb2); go_wp2_with fail; refine hK.out _ _ ?_ (fun hHeld => ?_); (focus ((try dsimp only); (first | exact ⟨c0, c1, hc0, hc1, hc2, hc3, hp0, hp1, hp2, hp3⟩ | exact ⟨(hbT.cell hqB).trans c0, (hbT.cell hqB).trans c1, (hbT.cell hq).trans hc0, (hbT.cell hq).trans hc1, (hbT.cell hq).trans hc2, (hbT.cell hq).trans hc3, (hbT.cell hq).trans hp0, (hbT.cell hq).trans hp1, (hbT.cell hq).trans hp2, (hbT.cell hq).trans hp3⟩))); clear hK K; (try simp only [Act.put, List.setIfInBounds_toArray, List.set_cons_zero, List.set_cons_succ]))
      first | refine tk 25 ?_ | refine ts 25 ?_
      first | refine tk 26 ?_ | refine ts 26 ?_
      first | refine tk 27 ?_ | refine ts 27 ?_
      refine wpAnyH_done (by kernel_rfl) ?_ _
      go_wp2
      go_ret
      exact ⟨ret_bool HN.out.symm, hb.trans (hbT.mono hb.size)⟩
     ·
      have HV := Lib.hid hv
      have HA := Lib.hid ha
      go_wp2
      refine wp_region_held_drew (S := (fun W => W.cell? ⟨w.heap.size, 0, none⟩ = some (.int .i64 z) ∧ W.cell? ⟨w.heap.size, 1, none⟩ = some (.slice (some ⟨b, o, none⟩) l.length c) ∧ W.cell? ⟨b, o + k * 4, none⟩ = some (.string l[k].k) ∧ W.cell? ⟨b, o + k * 4 + 1, none⟩ = some (.int .i64 l[k].n) ∧ W.cell? ⟨b, o + k * 4 + 2, none⟩ = some (.int .i64 l[k].f) ∧ W.cell? ⟨b, o + k * 4 + 3, none⟩ = some (.int .i64 l[k].t) ∧ W.cell? ⟨b, o + (k - 1) * 4, none⟩ = some (.string (l[k - 1]'(by omega)).k) ∧ W.cell? ⟨b, o + (k - 1) * 4 + 1, none⟩ = some (.int .i64 (l[k - 1]'(by omega)).n) ∧ W.cell? ⟨b, o + (k - 1) * 4 + 2, none⟩ = some (.int .i64 (l[k - 1]'(by omega)).f) ∧ W.cell? ⟨b, o + (k - 1) * 4 + 3, none⟩ = some (.int .i64 (l[k - 1]'(by omega)).t))) (by kernel_rfl) ?_ (fun hHeld => ?_)
      focus ((try dsimp only); (first | exact ⟨c0, c1, hc0, hc1, hc2, hc3, hp0, hp1, hp2, hp3⟩ | exact ⟨(hbT.cell hqB).trans c0, (hbT.cell hqB).trans c1, (hbT.cell hq).trans hc0, (hbT.cell hq).trans hc1, (hbT.cell hq).trans hc2, (hbT.cell hq).trans hc3, (hbT.cell hq).trans hp0, (hbT.cell hq).trans hp1, (hbT.cell hq).trans hp2, (hbT.cell hq).trans hp3⟩))
      first | refine tk 0 ?_ | refine ts 0 ?_
      first | refine tk 1 ?_ | refine ts 1 ?_
      first | refine tk 2 ?_ | refine ts 2 ?_
      first | refine tk 3 ?_ | refine ts 3 ?_
      first | refine tk 4 ?_ | refine ts 4 ?_
      first | refine tk 5 ?_ | refine ts 5 ?_
      first | refine tk 6 ?_ | refine ts 6 ?_
      first
       | refine ts 7 ?_
       | (refine rd1 7 (fun K hK => ?_); go_simp; (go_at_call 54; refine (specVer l[k] _ _ hs).mono ?_; rintro e w' ⟨rfl, hb2⟩; rw [hv]; have hbT := hbT.trans (hb2.mono hbT.size); clear hb2); go_wp2_with fail; refine hK.out _ _ ?_ (fun hHeld => ?_); (focus ((try dsimp only); (first | exact ⟨c0, c1, hc0, hc1, hc2, hc3, hp0, hp1, hp2, hp3⟩ | exact ⟨(hbT.cell hqB).trans c0, (hbT.cell hqB).trans c1, (hbT.cell hq).trans hc0, (hbT.cell hq).trans hc1, (hbT.cell hq).trans hc2, (hbT.cell hq).trans hc3, (hbT.cell hq).trans hp0, (hbT.cell hq).trans hp1, (hbT.cell hq).trans hp2, (hbT.cell hq).trans hp3⟩))); clear hK K; (try simp only [Act.put, List.setIfInBounds_toArray, List.set_cons_zero, List.set_cons_succ]))
      first | refine tk 8 ?_ | refine ts 8 ?_
      first | refine tk 9 ?_ | refine ts 9 ?_
      first | refine tk 10 ?_ | refine ts 10 ?_
      first | refine tk 11 ?_ | refine ts 11 ?_
      first | refine tk 12 ?_ | refine ts 12 ?_
      first | refine tk 13 ?_ | refine ts 13 ?_
      first | refine tk 14 ?_ | refine ts 14 ?_
      first | refine tk 15 ?_ | refine ts 15 ?_
      first | refine tk 16 ?_ | refine ts 16 ?_
      first | refine tk 17 ?_ | refine ts 17 ?_
      first | refine tk 18 ?_ | refine ts 18 ?_
      first | refine tk 19 ?_ | refine ts 19 ?_
      first | refine tk 20 ?_ | refine ts 20 ?_
      first | refine tk 21 ?_ | refine ts 21 ?_
      first | refine tk 22 ?_ | refine ts 22 ?_
      first | refine tk 23 ?_ | refine ts 23 ?_
      first
       | refine ts 24 ?_
       | (refine rd1 24 (fun K hK => ?_); go_simp; (go_at_call 55; refine (specAhead (l[k - 1]'(by omega)) l[k] _).mono ?_; rintro e w' ⟨rfl, hb2⟩; rw [ha]; have hbT := hbT.trans (hb2.mono hbT.size); clear hb2); go_wp2_with fail; refine hK.out _ _ ?_ (fun hHeld => ?_); (focus ((try dsimp only); (first | exact ⟨c0, c1, hc0, hc1, hc2, hc3, hp0, hp1, hp2, hp3⟩ | exact ⟨(hbT.cell hqB).trans c0, (hbT.cell hqB).trans c1, (hbT.cell hq).trans hc0, (hbT.cell hq).trans hc1, (hbT.cell hq).trans hc2, (hbT.cell hq).trans hc3, (hbT.cell hq).trans hp0, (hbT.cell hq).trans hp1, (hbT.cell hq).trans hp2, (hbT.cell hq).trans hp3⟩))); clear hK K; (try simp only [Act.put, List.setIfInBounds_toArray, List.set_cons_zero, List.set_cons_succ]))
      first | refine tk 25 ?_ | refine ts 25 ?_
      first | refine tk 26 ?_ | refine ts 26 ?_
      first | refine tk 27 ?_ | refine ts 27 ?_
      refine wpAnyH_done (by kernel_rfl) ?_ _
      go_wp2
      go_roundw
      case rel => exact ⟨k + 1, by omega, by go_num, hB.next hbT, hb.trans (hbT.mono hb.size), fun j h h1 => by
       by_cases e : j = k
       ·
        subst e; exact HV.out
       ·
        exact HALL.out j h (by omega), fun j h h1 => by
       by_cases e : j + 1 = k
       ·
        have := HA.out
        have e2 : k - 1 = j := by omega
        simp only [e2] at this
        simpa [e] using this
       ·
        exact HORD.out j h (by omega)⟩
      case measure => simp [intOf]; omega
  ·
   have hkI : decide ((k : Int) < (l.length : Int)) = false := decide_eq_false (by omega)
   have HK := Lib.hid (show k = l.length from by omega)
   go_wp2
   go_loopw [4] (fun i W => ∃ t : Nat, (t : Int) ≤ z + 1 ∧ i = .int .i64 t ∧ Blk W w.heap.size 32 #[.int .i64 z, .slice A l.length c] ∧ Below w.heap.size w W ∧ (∀ j : Int, 0 ≤ j → j < t → (atL l j).length ≤ 10)) (fun i _ => 41 - (intOf i).toNat)
   case atStart => exact ⟨0, by omega, rfl, hB, hb, fun j h h0 => absurd h0 (by omega)⟩
   case round =>
    obtain ⟨t, ht, rfl, hB, hb, hall⟩ := hrel
    have HF := Lib.hid hall
    clear hall
    have c0 : wr.cell? ⟨w.heap.size, 0, none⟩ = some (.int .i64 z) := by rw [hB.cell]; rfl
    have c1 : wr.cell? ⟨w.heap.size, 1, none⟩ = some (.slice A l.length c) := by rw [hB.cell]; rfl
    by_cases htz : (t : Int) ≤ z
    ·
     have hr2 := (hr.below hb).more hb.size
     go_wp2_with fail
     refine (specAt z A c l t wr hlc (by omega) hr2).mono ?_
     rintro e w3 ⟨v, rfl, hO, hb3⟩
     obtain ⟨A3, c3, rfl, _, _, _⟩ := hO.read
     have hw3 := hb.trans (hb3.mono hb.size)
     by_cases h10 : 10 < (atL l t).length
     ·
      have HN := Lib.hid (versB_no fun h : VersP z l => by have := h.few t (by omega) htz; omega)
      have hd : decide (10 < (atL l t).length) = true := decide_eq_true h10
      go_wp2
      go_ret
      exact ⟨ret_bool HN.out.symm, hw3⟩
     ·
      have hd : decide (10 < (atL l t).length) = false := decide_eq_false h10
      have hd' : decide ((10 : Int) < ((atL l t).length : Int)) = false := decide_eq_false (by omega)
      have H10 := Lib.hid h10
      clear h10
      go_wp2
      go_roundw
      case rel => exact ⟨t + 1, by omega, by go_num, hB.next hb3, hw3, fun j h0 h1 => by
       by_cases e : j = t
       ·
        subst e; have := H10.out; omega
       ·
        exact HF.out j h0 (by omega)⟩
      case measure => simp [intOf]; omega
    ·
     have hd : decide ((t : Int) ≤ z) = false := decide_eq_false htz
     have HT := Lib.hid htz
     clear htz
     have HP : Hid (VersP z l) := ⟨by omega, by omega, by omega, fun i h => HALL.out i h (by have := HK.out; omega), fun i h => HORD.out i h (by have := HK.out; omega), fun j h0 h1 => HF.out j h0 (by have := HT.out; omega)⟩
     go_wp2
     go_ret
     exact ⟨ret_bool (versB_yes HP.out).symm, hb⟩

end Go.Proofs.YtnijgbinjbikbaaGreat
