/- WritesOk, of the model and of the program. -/
import Derived.Test.YtnijgbinjbikbaaGreatB1
import Derived.IntWalk
namespace Go.Proofs.YtnijgbinjbikbaaGreat
open Go.RowKit
set_option linter.unusedVariables false
set_option maxRecDepth 100000

def writeB (x : X) : Bool := keyB x.k && numB x.n && (!x.g || decide (x.n = 0))
def AscX (l : List X) : Prop := ∀ i (h : i + 1 < l.length), lt l[i].k l[i + 1].k = true
structure WritesP (l : List X) : Prop where
 len : l.length ≤ 6
 each : ∀ i (h : i < l.length), writeB l[i] = true
 asc : AscX l
open Classical in
noncomputable def writesB (l : List X) : Bool := decide (WritesP l)
theorem writesB_yes {l : List X} (h : WritesP l) : writesB l = true := by unfold writesB; simp [h]
theorem writesB_no {l : List X} (h : ¬ WritesP l) : writesB l = false := by unfold writesB; simp [h]
theorem writesB_iff {l : List X} : writesB l = true ↔ WritesP l := by unfold writesB; simp
open Classical in
noncomputable def ascXB (l : List X) : Bool := decide (AscX l)
theorem ascXB_yes {l : List X} (h : AscX l) : ascXB l = true := by unfold ascXB; simp [h]
theorem ascXB_no {l : List X} (h : ¬ AscX l) : ascXB l = false := by unfold ascXB; simp [h]

set_option maxHeartbeats 4000000 in
theorem specWritesOk (A : Option Addr) (c : Nat) (l : List X) (w : World) (hfit : FitXs l) (hlc : l.length ≤ c) (hcm : c ≤ maxLen) (hr : RdG w w.heap.size A l) :
  Calls Tryz.prog 56 #[.slice A l.length c] w fun e w' => e = .returned (.bool (writesB l)) ∧ Below w.heap.size w w' := by
 unfold maxLen at hcm
 go_enter Tryz.func56, Tryz.ntmps56
 go_wp2
 go_loopw [3] (fun i W => ∃ k : Nat, k ≤ l.length ∧ i = .int .i64 k ∧ Below w.heap.size w W ∧ (∀ j (h : j < l.length), j < k → writeB l[j] = true) ∧ (∀ j (h : j + 1 < l.length), j + 1 < k → lt l[j].k l[j + 1].k = true)) (fun i _ => l.length - (intOf i).toNat)
 case atStart => exact ⟨0, Nat.zero_le _, rfl, Below.refl _ _, fun j h h0 => absurd h0 (by omega), fun j h h0 => absurd h0 (by omega)⟩
 case round =>
  obtain ⟨k, hk, rfl, hb, hall, hord⟩ := hrel
  have HALL := Lib.hid hall
  have HORD := Lib.hid hord
  clear hall hord
  by_cases hkl : k < l.length
  ·
   obtain ⟨b, o, rfl, hbB, hc0, hc1, hc2⟩ := (hr.below hb).atX hkl
   have hs := (hfit _ (List.getElem_mem hkl)).1
   have hkI := lenI _ _ hkl
   cases hkey : keyB l[k].k
   ·
    have HN := Lib.hid (writesB_no fun h : WritesP l => by have := h.each k hkl; unfold writeB at this; rw [hkey] at this; cases this)
    have hnum : numB l[k].n = numB l[k].n := rfl
    go_wp2
    refine wp_region_held_drew (S := (fun W => W.cell? ⟨b, o + k * 3, none⟩ = some (.string l[k].k) ∧ W.cell? ⟨b, o + k * 3 + 1, none⟩ = some (.int .i64 l[k].n) ∧ W.cell? ⟨b, o + k * 3 + 2, none⟩ = some (.bool l[k].g))) (by kernel_rfl) ?_ (fun hHeld => ?_)
    focus ((try dsimp only); (exact ⟨hc0, hc1, hc2⟩))
    refine tk 0 ?_
    refine tk 1 ?_
    refine tk 2 ?_
    refine tk 3 ?_
    refine tk 4 ?_
    (refine rd1 5 (fun K hK => ?_); go_simp; (go_at_call 90; refine (specKey _ _ hs).mono ?_; rintro e w' ⟨rfl, rfl⟩; rw [hkey]); go_wp2_with fail; refine hK.out _ _ ?_ (fun hHeld => ?_); (focus ((try dsimp only); (exact ⟨hc0, hc1, hc2⟩))); clear hK K; (try simp only [Act.put, pa, pb, pc]))
    refine tk 6 ?_
    refine tk 7 ?_
    first | refine tk 8 ?_ | refine ts 8 ?_
    first | refine tk 9 ?_ | refine ts 9 ?_
    first | refine tk 10 ?_ | refine ts 10 ?_
    first | refine tk 11 ?_ | refine ts 11 ?_
    first | refine tk 12 ?_ | refine ts 12 ?_
    first
     | refine ts 13 ?_
     | (refine rd1 13 (fun K hK => ?_); go_simp; (go_at_call 91; refine (specNum _ _).mono ?_; rintro e w' ⟨rfl, rfl⟩; rw [hnum]); go_wp2_with fail; refine hK.out _ _ ?_ (fun hHeld => ?_); (focus ((try dsimp only); (exact ⟨hc0, hc1, hc2⟩))); clear hK K; (try simp only [Act.put, pa, pb, pc]))
    first | refine tk 14 ?_ | refine ts 14 ?_
    refine tk 15 ?_
    refine tk 16 ?_
    first | refine tk 17 ?_ | refine ts 17 ?_
    first | refine tk 18 ?_ | refine ts 18 ?_
    first | refine tk 19 ?_ | refine ts 19 ?_
    first | refine tk 20 ?_ | refine ts 20 ?_
    first | refine tk 21 ?_ | refine ts 21 ?_
    first | refine tk 22 ?_ | refine ts 22 ?_
    first | refine tk 23 ?_ | refine ts 23 ?_
    first | refine tk 24 ?_ | refine ts 24 ?_
    first | refine tk 25 ?_ | refine ts 25 ?_
    first | refine tk 26 ?_ | refine ts 26 ?_
    first | refine tk 27 ?_ | refine ts 27 ?_
    first | refine tk 28 ?_ | refine ts 28 ?_
    first | refine tk 29 ?_ | refine ts 29 ?_
    refine tk 30 ?_
    refine tk 31 ?_
    first | refine tk 32 ?_ | refine ts 32 ?_
    first | refine tk 33 ?_ | refine ts 33 ?_
    first | refine tk 34 ?_ | refine ts 34 ?_
    first | refine tk 35 ?_ | refine ts 35 ?_
    first | refine tk 36 ?_ | refine ts 36 ?_
    first | refine tk 37 ?_ | refine ts 37 ?_
    first | refine tk 38 ?_ | refine ts 38 ?_
    first | refine tk 39 ?_ | refine ts 39 ?_
    first | refine tk 40 ?_ | refine ts 40 ?_
    first | refine tk 41 ?_ | refine ts 41 ?_
    first | refine tk 42 ?_ | refine ts 42 ?_
    first | refine tk 43 ?_ | refine ts 43 ?_
    first | refine tk 44 ?_ | refine ts 44 ?_
    first | refine tk 45 ?_ | refine ts 45 ?_
    first | refine tk 46 ?_ | refine ts 46 ?_
    first | refine tk 47 ?_ | refine ts 47 ?_
    refine tk 48 ?_
    refine wpAnyH_done (by kernel_rfl) ?_ _
    go_wp2
    go_ret
    exact ⟨ret_bool HN.out.symm, hb.drew⟩
   ·
    cases hnum : numB l[k].n
    ·
     have HN := Lib.hid (writesB_no fun h : WritesP l => by have := h.each k hkl; unfold writeB at this; rw [hkey, hnum] at this; cases this)
     go_wp2
     refine wp_region_held_drew (S := (fun W => W.cell? ⟨b, o + k * 3, none⟩ = some (.string l[k].k) ∧ W.cell? ⟨b, o + k * 3 + 1, none⟩ = some (.int .i64 l[k].n) ∧ W.cell? ⟨b, o + k * 3 + 2, none⟩ = some (.bool l[k].g))) (by kernel_rfl) ?_ (fun hHeld => ?_)
     focus ((try dsimp only); (exact ⟨hc0, hc1, hc2⟩))
     refine tk 0 ?_
     refine tk 1 ?_
     refine tk 2 ?_
     refine tk 3 ?_
     refine tk 4 ?_
     (refine rd1 5 (fun K hK => ?_); go_simp; (go_at_call 90; refine (specKey _ _ hs).mono ?_; rintro e w' ⟨rfl, rfl⟩; rw [hkey]); go_wp2_with fail; refine hK.out _ _ ?_ (fun hHeld => ?_); (focus ((try dsimp only); (exact ⟨hc0, hc1, hc2⟩))); clear hK K; (try simp only [Act.put, pa, pb, pc]))
     refine tk 6 ?_
     refine tk 7 ?_
     first | refine tk 8 ?_ | refine ts 8 ?_
     first | refine tk 9 ?_ | refine ts 9 ?_
     first | refine tk 10 ?_ | refine ts 10 ?_
     first | refine tk 11 ?_ | refine ts 11 ?_
     first | refine tk 12 ?_ | refine ts 12 ?_
     first
      | refine ts 13 ?_
      | (refine rd1 13 (fun K hK => ?_); go_simp; (go_at_call 91; refine (specNum _ _).mono ?_; rintro e w' ⟨rfl, rfl⟩; rw [hnum]); go_wp2_with fail; refine hK.out _ _ ?_ (fun hHeld => ?_); (focus ((try dsimp only); (exact ⟨hc0, hc1, hc2⟩))); clear hK K; (try simp only [Act.put, pa, pb, pc]))
     first | refine tk 14 ?_ | refine ts 14 ?_
     refine tk 15 ?_
     refine tk 16 ?_
     first | refine tk 17 ?_ | refine ts 17 ?_
     first | refine tk 18 ?_ | refine ts 18 ?_
     first | refine tk 19 ?_ | refine ts 19 ?_
     first | refine tk 20 ?_ | refine ts 20 ?_
     first | refine tk 21 ?_ | refine ts 21 ?_
     first | refine tk 22 ?_ | refine ts 22 ?_
     first | refine tk 23 ?_ | refine ts 23 ?_
     first | refine tk 24 ?_ | refine ts 24 ?_
     first | refine tk 25 ?_ | refine ts 25 ?_
     first | refine tk 26 ?_ | refine ts 26 ?_
     first | refine tk 27 ?_ | refine ts 27 ?_
     first | refine tk 28 ?_ | refine ts 28 ?_
     first | refine tk 29 ?_ | refine ts 29 ?_
     refine tk 30 ?_
     refine tk 31 ?_
     first | refine tk 32 ?_ | refine ts 32 ?_
     first | refine tk 33 ?_ | refine ts 33 ?_
     first | refine tk 34 ?_ | refine ts 34 ?_
     first | refine tk 35 ?_ | refine ts 35 ?_
     first | refine tk 36 ?_ | refine ts 36 ?_
     first | refine tk 37 ?_ | refine ts 37 ?_
     first | refine tk 38 ?_ | refine ts 38 ?_
     first | refine tk 39 ?_ | refine ts 39 ?_
     first | refine tk 40 ?_ | refine ts 40 ?_
     first | refine tk 41 ?_ | refine ts 41 ?_
     first | refine tk 42 ?_ | refine ts 42 ?_
     first | refine tk 43 ?_ | refine ts 43 ?_
     first | refine tk 44 ?_ | refine ts 44 ?_
     first | refine tk 45 ?_ | refine ts 45 ?_
     first | refine tk 46 ?_ | refine ts 46 ?_
     first | refine tk 47 ?_ | refine ts 47 ?_
     refine tk 48 ?_
     refine wpAnyH_done (by kernel_rfl) ?_ _
     go_wp2
     go_ret
     exact ⟨ret_bool HN.out.symm, hb.drew⟩
    ·
     cases hg : l[k].g
     ·
      have HV := Lib.hid (show writeB l[k] = true from by unfold writeB; rw [hkey, hnum, hg]; rfl)
      go_wp2
      by_cases hk0 : k = 0
      ·
       have hz : decide (0 < k) = false := by simp; omega
       have H0 := Lib.hid hk0
       clear hk0
       refine wp_region_held_drew (S := (fun W => W.cell? ⟨b, o + k * 3, none⟩ = some (.string l[k].k) ∧ W.cell? ⟨b, o + k * 3 + 1, none⟩ = some (.int .i64 l[k].n) ∧ W.cell? ⟨b, o + k * 3 + 2, none⟩ = some (.bool l[k].g))) (by kernel_rfl) ?_ (fun hHeld => ?_)
       focus ((try dsimp only); (exact ⟨hc0, hc1, hc2⟩))
       refine tk 0 ?_
       refine tk 1 ?_
       refine tk 2 ?_
       refine tk 3 ?_
       refine tk 4 ?_
       (refine rd1 5 (fun K hK => ?_); go_simp; (go_at_call 90; refine (specKey _ _ hs).mono ?_; rintro e w' ⟨rfl, rfl⟩; rw [hkey]); go_wp2_with fail; refine hK.out _ _ ?_ (fun hHeld => ?_); (focus ((try dsimp only); (exact ⟨hc0, hc1, hc2⟩))); clear hK K; (try simp only [Act.put, pa, pb, pc]))
       refine tk 6 ?_
       refine tk 7 ?_
       first | refine tk 8 ?_ | refine ts 8 ?_
       first | refine tk 9 ?_ | refine ts 9 ?_
       first | refine tk 10 ?_ | refine ts 10 ?_
       first | refine tk 11 ?_ | refine ts 11 ?_
       first | refine tk 12 ?_ | refine ts 12 ?_
       first
        | refine ts 13 ?_
        | (refine rd1 13 (fun K hK => ?_); go_simp; (go_at_call 91; refine (specNum _ _).mono ?_; rintro e w' ⟨rfl, rfl⟩; rw [hnum]); go_wp2_with fail; refine hK.out _ _ ?_ (fun hHeld => ?_); (focus ((try dsimp only); (exact ⟨hc0, hc1, hc2⟩))); clear hK K; (try simp only [Act.put, pa, pb, pc]))
       first | refine tk 14 ?_ | refine ts 14 ?_
       refine tk 15 ?_
       refine tk 16 ?_
       first | refine tk 17 ?_ | refine ts 17 ?_
       first | refine tk 18 ?_ | refine ts 18 ?_
       first | refine tk 19 ?_ | refine ts 19 ?_
       first | refine tk 20 ?_ | refine ts 20 ?_
       first | refine tk 21 ?_ | refine ts 21 ?_
       first | refine tk 22 ?_ | refine ts 22 ?_
       first | refine tk 23 ?_ | refine ts 23 ?_
       first | refine tk 24 ?_ | refine ts 24 ?_
       first | refine tk 25 ?_ | refine ts 25 ?_
       first | refine tk 26 ?_ | refine ts 26 ?_
       first | refine tk 27 ?_ | refine ts 27 ?_
       first | refine tk 28 ?_ | refine ts 28 ?_
       first | refine tk 29 ?_ | refine ts 29 ?_
       refine tk 30 ?_
       refine tk 31 ?_
       first | refine tk 32 ?_ | refine ts 32 ?_
       first | refine tk 33 ?_ | refine ts 33 ?_
       first | refine tk 34 ?_ | refine ts 34 ?_
       first | refine tk 35 ?_ | refine ts 35 ?_
       first | refine tk 36 ?_ | refine ts 36 ?_
       first | refine tk 37 ?_ | refine ts 37 ?_
       first | refine tk 38 ?_ | refine ts 38 ?_
       first | refine tk 39 ?_ | refine ts 39 ?_
       first | refine tk 40 ?_ | refine ts 40 ?_
       first | refine tk 41 ?_ | refine ts 41 ?_
       first | refine tk 42 ?_ | refine ts 42 ?_
       first | refine tk 43 ?_ | refine ts 43 ?_
       first | refine tk 44 ?_ | refine ts 44 ?_
       first | refine tk 45 ?_ | refine ts 45 ?_
       first | refine tk 46 ?_ | refine ts 46 ?_
       first | refine tk 47 ?_ | refine ts 47 ?_
       refine tk 48 ?_
       refine wpAnyH_done (by kernel_rfl) ?_ _
       go_wp2
       go_roundw
       case rel => exact ⟨k + 1, by omega, by go_num, hb.drew, fun j h h1 => by
        have e := H0.out
        obtain rfl : j = k := by omega
        exact HV.out, fun j h h1 => absurd h1 (by have := H0.out; omega)⟩
       case measure => simp [intOf]; omega
      ·
       have hz : decide (0 < k) = true := by simp; omega
       obtain ⟨hp0, hp1, hp2⟩ := (hr.below hb).fixX rfl (i := k - 1) (by omega)
       have hi1 : ((k : Int) - 1).toNat = k - 1 := by omega
       have hi2 : (0 : Int) ≤ (k : Int) - 1 := by omega
       have hi3 : (k : Int) - 1 < (l.length : Int) := by omega
       have hi4 : (1 : Int) ≤ (k : Int) := by omega
       have hi5 : (0 : Int) ≤ (k : Int) := by omega
       have hi7 : IntKind.i64.wrap ((k : Int) - 1) = (k : Int) - 1 := IntWalk.i64_in _ (by omega)
       cases hlt : Op.bytesLess (l[k - 1]'(by omega)).k.toList l[k].k.toList
       ·
        have HN := Lib.hid (writesB_no fun h : WritesP l => by
         have := h.asc (k - 1) (by omega)
         have e : k - 1 + 1 = k := by omega
         simp only [e] at this
         unfold lt at this
         rw [hlt] at this; cases this)
        refine wp_region_held_drew (S := (fun W => W.cell? ⟨b, o + k * 3, none⟩ = some (.string l[k].k) ∧ W.cell? ⟨b, o + k * 3 + 1, none⟩ = some (.int .i64 l[k].n) ∧ W.cell? ⟨b, o + k * 3 + 2, none⟩ = some (.bool l[k].g) ∧ W.cell? ⟨b, o + (k - 1) * 3, none⟩ = some (.string (l[k - 1]'(by omega)).k) ∧ W.cell? ⟨b, o + (k - 1) * 3 + 1, none⟩ = some (.int .i64 (l[k - 1]'(by omega)).n) ∧ W.cell? ⟨b, o + (k - 1) * 3 + 2, none⟩ = some (.bool (l[k - 1]'(by omega)).g))) (by kernel_rfl) ?_ (fun hHeld => ?_)
        focus ((try dsimp only); (exact ⟨hc0, hc1, hc2, hp0, hp1, hp2⟩))
        refine tk 0 ?_
        refine tk 1 ?_
        refine tk 2 ?_
        refine tk 3 ?_
        refine tk 4 ?_
        (refine rd1 5 (fun K hK => ?_); go_simp; (go_at_call 90; refine (specKey _ _ hs).mono ?_; rintro e w' ⟨rfl, rfl⟩; rw [hkey]); go_wp2_with fail; refine hK.out _ _ ?_ (fun hHeld => ?_); (focus ((try dsimp only); (exact ⟨hc0, hc1, hc2, hp0, hp1, hp2⟩))); clear hK K; (try simp only [Act.put, pa, pb, pc]))
        refine tk 6 ?_
        refine tk 7 ?_
        first | refine tk 8 ?_ | refine ts 8 ?_
        first | refine tk 9 ?_ | refine ts 9 ?_
        first | refine tk 10 ?_ | refine ts 10 ?_
        first | refine tk 11 ?_ | refine ts 11 ?_
        first | refine tk 12 ?_ | refine ts 12 ?_
        first
         | refine ts 13 ?_
         | (refine rd1 13 (fun K hK => ?_); go_simp; (go_at_call 91; refine (specNum _ _).mono ?_; rintro e w' ⟨rfl, rfl⟩; rw [hnum]); go_wp2_with fail; refine hK.out _ _ ?_ (fun hHeld => ?_); (focus ((try dsimp only); (exact ⟨hc0, hc1, hc2, hp0, hp1, hp2⟩))); clear hK K; (try simp only [Act.put, pa, pb, pc]))
        first | refine tk 14 ?_ | refine ts 14 ?_
        refine tk 15 ?_
        refine tk 16 ?_
        first | refine tk 17 ?_ | refine ts 17 ?_
        first | refine tk 18 ?_ | refine ts 18 ?_
        first | refine tk 19 ?_ | refine ts 19 ?_
        first | refine tk 20 ?_ | refine ts 20 ?_
        first | refine tk 21 ?_ | refine ts 21 ?_
        first | refine tk 22 ?_ | refine ts 22 ?_
        first | refine tk 23 ?_ | refine ts 23 ?_
        first | refine tk 24 ?_ | refine ts 24 ?_
        first | refine tk 25 ?_ | refine ts 25 ?_
        first | refine tk 26 ?_ | refine ts 26 ?_
        first | refine tk 27 ?_ | refine ts 27 ?_
        first | refine tk 28 ?_ | refine ts 28 ?_
        first | refine tk 29 ?_ | refine ts 29 ?_
        refine tk 30 ?_
        refine tk 31 ?_
        first | refine tk 32 ?_ | refine ts 32 ?_
        first | refine tk 33 ?_ | refine ts 33 ?_
        first | refine tk 34 ?_ | refine ts 34 ?_
        first | refine tk 35 ?_ | refine ts 35 ?_
        first | refine tk 36 ?_ | refine ts 36 ?_
        first | refine tk 37 ?_ | refine ts 37 ?_
        first | refine tk 38 ?_ | refine ts 38 ?_
        first | refine tk 39 ?_ | refine ts 39 ?_
        first | refine tk 40 ?_ | refine ts 40 ?_
        first | refine tk 41 ?_ | refine ts 41 ?_
        first | refine tk 42 ?_ | refine ts 42 ?_
        first | refine tk 43 ?_ | refine ts 43 ?_
        first | refine tk 44 ?_ | refine ts 44 ?_
        first | refine tk 45 ?_ | refine ts 45 ?_
        first | refine tk 46 ?_ | refine ts 46 ?_
        first | refine tk 47 ?_ | refine ts 47 ?_
        refine tk 48 ?_
        refine wpAnyH_done (by kernel_rfl) ?_ _
        go_wp2
        go_ret
        exact ⟨ret_bool HN.out.symm, hb.drew⟩
       ·
        have HL := Lib.hid (show lt (l[k - 1]'(by omega)).k l[k].k = true from hlt)
        refine wp_region_held_drew (S := (fun W => W.cell? ⟨b, o + k * 3, none⟩ = some (.string l[k].k) ∧ W.cell? ⟨b, o + k * 3 + 1, none⟩ = some (.int .i64 l[k].n) ∧ W.cell? ⟨b, o + k * 3 + 2, none⟩ = some (.bool l[k].g) ∧ W.cell? ⟨b, o + (k - 1) * 3, none⟩ = some (.string (l[k - 1]'(by omega)).k) ∧ W.cell? ⟨b, o + (k - 1) * 3 + 1, none⟩ = some (.int .i64 (l[k - 1]'(by omega)).n) ∧ W.cell? ⟨b, o + (k - 1) * 3 + 2, none⟩ = some (.bool (l[k - 1]'(by omega)).g))) (by kernel_rfl) ?_ (fun hHeld => ?_)
        focus ((try dsimp only); (exact ⟨hc0, hc1, hc2, hp0, hp1, hp2⟩))
        refine tk 0 ?_
        refine tk 1 ?_
        refine tk 2 ?_
        refine tk 3 ?_
        refine tk 4 ?_
        (refine rd1 5 (fun K hK => ?_); go_simp; (go_at_call 90; refine (specKey _ _ hs).mono ?_; rintro e w' ⟨rfl, rfl⟩; rw [hkey]); go_wp2_with fail; refine hK.out _ _ ?_ (fun hHeld => ?_); (focus ((try dsimp only); (exact ⟨hc0, hc1, hc2, hp0, hp1, hp2⟩))); clear hK K; (try simp only [Act.put, pa, pb, pc]))
        refine tk 6 ?_
        refine tk 7 ?_
        first | refine tk 8 ?_ | refine ts 8 ?_
        first | refine tk 9 ?_ | refine ts 9 ?_
        first | refine tk 10 ?_ | refine ts 10 ?_
        first | refine tk 11 ?_ | refine ts 11 ?_
        first | refine tk 12 ?_ | refine ts 12 ?_
        first
         | refine ts 13 ?_
         | (refine rd1 13 (fun K hK => ?_); go_simp; (go_at_call 91; refine (specNum _ _).mono ?_; rintro e w' ⟨rfl, rfl⟩; rw [hnum]); go_wp2_with fail; refine hK.out _ _ ?_ (fun hHeld => ?_); (focus ((try dsimp only); (exact ⟨hc0, hc1, hc2, hp0, hp1, hp2⟩))); clear hK K; (try simp only [Act.put, pa, pb, pc]))
        first | refine tk 14 ?_ | refine ts 14 ?_
        refine tk 15 ?_
        refine tk 16 ?_
        first | refine tk 17 ?_ | refine ts 17 ?_
        first | refine tk 18 ?_ | refine ts 18 ?_
        first | refine tk 19 ?_ | refine ts 19 ?_
        first | refine tk 20 ?_ | refine ts 20 ?_
        first | refine tk 21 ?_ | refine ts 21 ?_
        first | refine tk 22 ?_ | refine ts 22 ?_
        first | refine tk 23 ?_ | refine ts 23 ?_
        first | refine tk 24 ?_ | refine ts 24 ?_
        first | refine tk 25 ?_ | refine ts 25 ?_
        first | refine tk 26 ?_ | refine ts 26 ?_
        first | refine tk 27 ?_ | refine ts 27 ?_
        first | refine tk 28 ?_ | refine ts 28 ?_
        first | refine tk 29 ?_ | refine ts 29 ?_
        refine tk 30 ?_
        refine tk 31 ?_
        first | refine tk 32 ?_ | refine ts 32 ?_
        first | refine tk 33 ?_ | refine ts 33 ?_
        first | refine tk 34 ?_ | refine ts 34 ?_
        first | refine tk 35 ?_ | refine ts 35 ?_
        first | refine tk 36 ?_ | refine ts 36 ?_
        first | refine tk 37 ?_ | refine ts 37 ?_
        first | refine tk 38 ?_ | refine ts 38 ?_
        first | refine tk 39 ?_ | refine ts 39 ?_
        first | refine tk 40 ?_ | refine ts 40 ?_
        first | refine tk 41 ?_ | refine ts 41 ?_
        first | refine tk 42 ?_ | refine ts 42 ?_
        first | refine tk 43 ?_ | refine ts 43 ?_
        first | refine tk 44 ?_ | refine ts 44 ?_
        first | refine tk 45 ?_ | refine ts 45 ?_
        first | refine tk 46 ?_ | refine ts 46 ?_
        first | refine tk 47 ?_ | refine ts 47 ?_
        refine tk 48 ?_
        refine wpAnyH_done (by kernel_rfl) ?_ _
        go_wp2
        go_roundw
        case rel => exact ⟨k + 1, by omega, by go_num, hb.drew, fun j h h1 => by
         by_cases e : j = k
         ·
          subst e; exact HV.out
         ·
          exact HALL.out j h (by omega), fun j h h1 => by
         by_cases e : j + 1 = k
         ·
          have := HL.out
          have e2 : k - 1 = j := by omega
          simp only [e2] at this
          simpa [e] using this
         ·
          exact HORD.out j h (by omega)⟩
        case measure => simp [intOf]; omega
     ·
      by_cases hn0 : l[k].n = 0
      ·
       have HV := Lib.hid (show writeB l[k] = true from by unfold writeB; rw [hkey, hnum, hg, hn0]; rfl)
       have hne : (l[k].n != 0) = false := by simp [hn0]
       clear hn0
       go_wp2
       by_cases hk0 : k = 0
       ·
        have hz : decide (0 < k) = false := by simp; omega
        have H0 := Lib.hid hk0
        clear hk0
        refine wp_region_held_drew (S := (fun W => W.cell? ⟨b, o + k * 3, none⟩ = some (.string l[k].k) ∧ W.cell? ⟨b, o + k * 3 + 1, none⟩ = some (.int .i64 l[k].n) ∧ W.cell? ⟨b, o + k * 3 + 2, none⟩ = some (.bool l[k].g))) (by kernel_rfl) ?_ (fun hHeld => ?_)
        focus ((try dsimp only); (exact ⟨hc0, hc1, hc2⟩))
        refine tk 0 ?_
        refine tk 1 ?_
        refine tk 2 ?_
        refine tk 3 ?_
        refine tk 4 ?_
        (refine rd1 5 (fun K hK => ?_); go_simp; (go_at_call 90; refine (specKey _ _ hs).mono ?_; rintro e w' ⟨rfl, rfl⟩; rw [hkey]); go_wp2_with fail; refine hK.out _ _ ?_ (fun hHeld => ?_); (focus ((try dsimp only); (exact ⟨hc0, hc1, hc2⟩))); clear hK K; (try simp only [Act.put, pa, pb, pc]))
        refine tk 6 ?_
        refine tk 7 ?_
        first | refine tk 8 ?_ | refine ts 8 ?_
        first | refine tk 9 ?_ | refine ts 9 ?_
        first | refine tk 10 ?_ | refine ts 10 ?_
        first | refine tk 11 ?_ | refine ts 11 ?_
        first | refine tk 12 ?_ | refine ts 12 ?_
        first
         | refine ts 13 ?_
         | (refine rd1 13 (fun K hK => ?_); go_simp; (go_at_call 91; refine (specNum _ _).mono ?_; rintro e w' ⟨rfl, rfl⟩; rw [hnum]); go_wp2_with fail; refine hK.out _ _ ?_ (fun hHeld => ?_); (focus ((try dsimp only); (exact ⟨hc0, hc1, hc2⟩))); clear hK K; (try simp only [Act.put, pa, pb, pc]))
        first | refine tk 14 ?_ | refine ts 14 ?_
        refine tk 15 ?_
        refine tk 16 ?_
        first | refine tk 17 ?_ | refine ts 17 ?_
        first | refine tk 18 ?_ | refine ts 18 ?_
        first | refine tk 19 ?_ | refine ts 19 ?_
        first | refine tk 20 ?_ | refine ts 20 ?_
        first | refine tk 21 ?_ | refine ts 21 ?_
        first | refine tk 22 ?_ | refine ts 22 ?_
        first | refine tk 23 ?_ | refine ts 23 ?_
        first | refine tk 24 ?_ | refine ts 24 ?_
        first | refine tk 25 ?_ | refine ts 25 ?_
        first | refine tk 26 ?_ | refine ts 26 ?_
        first | refine tk 27 ?_ | refine ts 27 ?_
        first | refine tk 28 ?_ | refine ts 28 ?_
        first | refine tk 29 ?_ | refine ts 29 ?_
        refine tk 30 ?_
        refine tk 31 ?_
        first | refine tk 32 ?_ | refine ts 32 ?_
        first | refine tk 33 ?_ | refine ts 33 ?_
        first | refine tk 34 ?_ | refine ts 34 ?_
        first | refine tk 35 ?_ | refine ts 35 ?_
        first | refine tk 36 ?_ | refine ts 36 ?_
        first | refine tk 37 ?_ | refine ts 37 ?_
        first | refine tk 38 ?_ | refine ts 38 ?_
        first | refine tk 39 ?_ | refine ts 39 ?_
        first | refine tk 40 ?_ | refine ts 40 ?_
        first | refine tk 41 ?_ | refine ts 41 ?_
        first | refine tk 42 ?_ | refine ts 42 ?_
        first | refine tk 43 ?_ | refine ts 43 ?_
        first | refine tk 44 ?_ | refine ts 44 ?_
        first | refine tk 45 ?_ | refine ts 45 ?_
        first | refine tk 46 ?_ | refine ts 46 ?_
        first | refine tk 47 ?_ | refine ts 47 ?_
        refine tk 48 ?_
        refine wpAnyH_done (by kernel_rfl) ?_ _
        go_wp2
        go_roundw
        case rel => exact ⟨k + 1, by omega, by go_num, hb.drew, fun j h h1 => by
         have e := H0.out
         obtain rfl : j = k := by omega
         exact HV.out, fun j h h1 => absurd h1 (by have := H0.out; omega)⟩
        case measure => simp [intOf]; omega
       ·
        have hz : decide (0 < k) = true := by simp; omega
        obtain ⟨hp0, hp1, hp2⟩ := (hr.below hb).fixX rfl (i := k - 1) (by omega)
        have hi1 : ((k : Int) - 1).toNat = k - 1 := by omega
        have hi2 : (0 : Int) ≤ (k : Int) - 1 := by omega
        have hi3 : (k : Int) - 1 < (l.length : Int) := by omega
        have hi4 : (1 : Int) ≤ (k : Int) := by omega
        have hi5 : (0 : Int) ≤ (k : Int) := by omega
        have hi7 : IntKind.i64.wrap ((k : Int) - 1) = (k : Int) - 1 := IntWalk.i64_in _ (by omega)
        cases hlt : Op.bytesLess (l[k - 1]'(by omega)).k.toList l[k].k.toList
        ·
         have HN := Lib.hid (writesB_no fun h : WritesP l => by
          have := h.asc (k - 1) (by omega)
          have e : k - 1 + 1 = k := by omega
          simp only [e] at this
          unfold lt at this
          rw [hlt] at this; cases this)
         refine wp_region_held_drew (S := (fun W => W.cell? ⟨b, o + k * 3, none⟩ = some (.string l[k].k) ∧ W.cell? ⟨b, o + k * 3 + 1, none⟩ = some (.int .i64 l[k].n) ∧ W.cell? ⟨b, o + k * 3 + 2, none⟩ = some (.bool l[k].g) ∧ W.cell? ⟨b, o + (k - 1) * 3, none⟩ = some (.string (l[k - 1]'(by omega)).k) ∧ W.cell? ⟨b, o + (k - 1) * 3 + 1, none⟩ = some (.int .i64 (l[k - 1]'(by omega)).n) ∧ W.cell? ⟨b, o + (k - 1) * 3 + 2, none⟩ = some (.bool (l[k - 1]'(by omega)).g))) (by kernel_rfl) ?_ (fun hHeld => ?_)
         focus ((try dsimp only); (exact ⟨hc0, hc1, hc2, hp0, hp1, hp2⟩))
         refine tk 0 ?_
         refine tk 1 ?_
         refine tk 2 ?_
         refine tk 3 ?_
         refine tk 4 ?_
         (refine rd1 5 (fun K hK => ?_); go_simp; (go_at_call 90; refine (specKey _ _ hs).mono ?_; rintro e w' ⟨rfl, rfl⟩; rw [hkey]); go_wp2_with fail; refine hK.out _ _ ?_ (fun hHeld => ?_); (focus ((try dsimp only); (exact ⟨hc0, hc1, hc2, hp0, hp1, hp2⟩))); clear hK K; (try simp only [Act.put, pa, pb, pc]))
         refine tk 6 ?_
         refine tk 7 ?_
         first | refine tk 8 ?_ | refine ts 8 ?_
         first | refine tk 9 ?_ | refine ts 9 ?_
         first | refine tk 10 ?_ | refine ts 10 ?_
         first | refine tk 11 ?_ | refine ts 11 ?_
         first | refine tk 12 ?_ | refine ts 12 ?_
         first
          | refine ts 13 ?_
          | (refine rd1 13 (fun K hK => ?_); go_simp; (go_at_call 91; refine (specNum _ _).mono ?_; rintro e w' ⟨rfl, rfl⟩; rw [hnum]); go_wp2_with fail; refine hK.out _ _ ?_ (fun hHeld => ?_); (focus ((try dsimp only); (exact ⟨hc0, hc1, hc2, hp0, hp1, hp2⟩))); clear hK K; (try simp only [Act.put, pa, pb, pc]))
         first | refine tk 14 ?_ | refine ts 14 ?_
         refine tk 15 ?_
         refine tk 16 ?_
         first | refine tk 17 ?_ | refine ts 17 ?_
         first | refine tk 18 ?_ | refine ts 18 ?_
         first | refine tk 19 ?_ | refine ts 19 ?_
         first | refine tk 20 ?_ | refine ts 20 ?_
         first | refine tk 21 ?_ | refine ts 21 ?_
         first | refine tk 22 ?_ | refine ts 22 ?_
         first | refine tk 23 ?_ | refine ts 23 ?_
         first | refine tk 24 ?_ | refine ts 24 ?_
         first | refine tk 25 ?_ | refine ts 25 ?_
         first | refine tk 26 ?_ | refine ts 26 ?_
         first | refine tk 27 ?_ | refine ts 27 ?_
         first | refine tk 28 ?_ | refine ts 28 ?_
         first | refine tk 29 ?_ | refine ts 29 ?_
         refine tk 30 ?_
         refine tk 31 ?_
         first | refine tk 32 ?_ | refine ts 32 ?_
         first | refine tk 33 ?_ | refine ts 33 ?_
         first | refine tk 34 ?_ | refine ts 34 ?_
         first | refine tk 35 ?_ | refine ts 35 ?_
         first | refine tk 36 ?_ | refine ts 36 ?_
         first | refine tk 37 ?_ | refine ts 37 ?_
         first | refine tk 38 ?_ | refine ts 38 ?_
         first | refine tk 39 ?_ | refine ts 39 ?_
         first | refine tk 40 ?_ | refine ts 40 ?_
         first | refine tk 41 ?_ | refine ts 41 ?_
         first | refine tk 42 ?_ | refine ts 42 ?_
         first | refine tk 43 ?_ | refine ts 43 ?_
         first | refine tk 44 ?_ | refine ts 44 ?_
         first | refine tk 45 ?_ | refine ts 45 ?_
         first | refine tk 46 ?_ | refine ts 46 ?_
         first | refine tk 47 ?_ | refine ts 47 ?_
         refine tk 48 ?_
         refine wpAnyH_done (by kernel_rfl) ?_ _
         go_wp2
         go_ret
         exact ⟨ret_bool HN.out.symm, hb.drew⟩
        ·
         have HL := Lib.hid (show lt (l[k - 1]'(by omega)).k l[k].k = true from hlt)
         refine wp_region_held_drew (S := (fun W => W.cell? ⟨b, o + k * 3, none⟩ = some (.string l[k].k) ∧ W.cell? ⟨b, o + k * 3 + 1, none⟩ = some (.int .i64 l[k].n) ∧ W.cell? ⟨b, o + k * 3 + 2, none⟩ = some (.bool l[k].g) ∧ W.cell? ⟨b, o + (k - 1) * 3, none⟩ = some (.string (l[k - 1]'(by omega)).k) ∧ W.cell? ⟨b, o + (k - 1) * 3 + 1, none⟩ = some (.int .i64 (l[k - 1]'(by omega)).n) ∧ W.cell? ⟨b, o + (k - 1) * 3 + 2, none⟩ = some (.bool (l[k - 1]'(by omega)).g))) (by kernel_rfl) ?_ (fun hHeld => ?_)
         focus ((try dsimp only); (exact ⟨hc0, hc1, hc2, hp0, hp1, hp2⟩))
         refine tk 0 ?_
         refine tk 1 ?_
         refine tk 2 ?_
         refine tk 3 ?_
         refine tk 4 ?_
         (refine rd1 5 (fun K hK => ?_); go_simp; (go_at_call 90; refine (specKey _ _ hs).mono ?_; rintro e w' ⟨rfl, rfl⟩; rw [hkey]); go_wp2_with fail; refine hK.out _ _ ?_ (fun hHeld => ?_); (focus ((try dsimp only); (exact ⟨hc0, hc1, hc2, hp0, hp1, hp2⟩))); clear hK K; (try simp only [Act.put, pa, pb, pc]))
         refine tk 6 ?_
         refine tk 7 ?_
         first | refine tk 8 ?_ | refine ts 8 ?_
         first | refine tk 9 ?_ | refine ts 9 ?_
         first | refine tk 10 ?_ | refine ts 10 ?_
         first | refine tk 11 ?_ | refine ts 11 ?_
         first | refine tk 12 ?_ | refine ts 12 ?_
         first
          | refine ts 13 ?_
          | (refine rd1 13 (fun K hK => ?_); go_simp; (go_at_call 91; refine (specNum _ _).mono ?_; rintro e w' ⟨rfl, rfl⟩; rw [hnum]); go_wp2_with fail; refine hK.out _ _ ?_ (fun hHeld => ?_); (focus ((try dsimp only); (exact ⟨hc0, hc1, hc2, hp0, hp1, hp2⟩))); clear hK K; (try simp only [Act.put, pa, pb, pc]))
         first | refine tk 14 ?_ | refine ts 14 ?_
         refine tk 15 ?_
         refine tk 16 ?_
         first | refine tk 17 ?_ | refine ts 17 ?_
         first | refine tk 18 ?_ | refine ts 18 ?_
         first | refine tk 19 ?_ | refine ts 19 ?_
         first | refine tk 20 ?_ | refine ts 20 ?_
         first | refine tk 21 ?_ | refine ts 21 ?_
         first | refine tk 22 ?_ | refine ts 22 ?_
         first | refine tk 23 ?_ | refine ts 23 ?_
         first | refine tk 24 ?_ | refine ts 24 ?_
         first | refine tk 25 ?_ | refine ts 25 ?_
         first | refine tk 26 ?_ | refine ts 26 ?_
         first | refine tk 27 ?_ | refine ts 27 ?_
         first | refine tk 28 ?_ | refine ts 28 ?_
         first | refine tk 29 ?_ | refine ts 29 ?_
         refine tk 30 ?_
         refine tk 31 ?_
         first | refine tk 32 ?_ | refine ts 32 ?_
         first | refine tk 33 ?_ | refine ts 33 ?_
         first | refine tk 34 ?_ | refine ts 34 ?_
         first | refine tk 35 ?_ | refine ts 35 ?_
         first | refine tk 36 ?_ | refine ts 36 ?_
         first | refine tk 37 ?_ | refine ts 37 ?_
         first | refine tk 38 ?_ | refine ts 38 ?_
         first | refine tk 39 ?_ | refine ts 39 ?_
         first | refine tk 40 ?_ | refine ts 40 ?_
         first | refine tk 41 ?_ | refine ts 41 ?_
         first | refine tk 42 ?_ | refine ts 42 ?_
         first | refine tk 43 ?_ | refine ts 43 ?_
         first | refine tk 44 ?_ | refine ts 44 ?_
         first | refine tk 45 ?_ | refine ts 45 ?_
         first | refine tk 46 ?_ | refine ts 46 ?_
         first | refine tk 47 ?_ | refine ts 47 ?_
         refine tk 48 ?_
         refine wpAnyH_done (by kernel_rfl) ?_ _
         go_wp2
         go_roundw
         case rel => exact ⟨k + 1, by omega, by go_num, hb.drew, fun j h h1 => by
          by_cases e : j = k
          ·
           subst e; exact HV.out
          ·
           exact HALL.out j h (by omega), fun j h h1 => by
          by_cases e : j + 1 = k
          ·
           have := HL.out
           have e2 : k - 1 = j := by omega
           simp only [e2] at this
           simpa [e] using this
          ·
           exact HORD.out j h (by omega)⟩
         case measure => simp [intOf]; omega
      ·
       have hne : (l[k].n != 0) = true := by simp [hn0]
       have HN := Lib.hid (writesB_no fun h : WritesP l => by have := h.each k hkl; unfold writeB at this; rw [hkey, hnum, hg] at this; simp [hn0] at this)
       clear hn0
       go_wp2
       refine wp_region_held_drew (S := (fun W => W.cell? ⟨b, o + k * 3, none⟩ = some (.string l[k].k) ∧ W.cell? ⟨b, o + k * 3 + 1, none⟩ = some (.int .i64 l[k].n) ∧ W.cell? ⟨b, o + k * 3 + 2, none⟩ = some (.bool l[k].g))) (by kernel_rfl) ?_ (fun hHeld => ?_)
       focus ((try dsimp only); (exact ⟨hc0, hc1, hc2⟩))
       refine tk 0 ?_
       refine tk 1 ?_
       refine tk 2 ?_
       refine tk 3 ?_
       refine tk 4 ?_
       (refine rd1 5 (fun K hK => ?_); go_simp; (go_at_call 90; refine (specKey _ _ hs).mono ?_; rintro e w' ⟨rfl, rfl⟩; rw [hkey]); go_wp2_with fail; refine hK.out _ _ ?_ (fun hHeld => ?_); (focus ((try dsimp only); (exact ⟨hc0, hc1, hc2⟩))); clear hK K; (try simp only [Act.put, pa, pb, pc]))
       refine tk 6 ?_
       refine tk 7 ?_
       first | refine tk 8 ?_ | refine ts 8 ?_
       first | refine tk 9 ?_ | refine ts 9 ?_
       first | refine tk 10 ?_ | refine ts 10 ?_
       first | refine tk 11 ?_ | refine ts 11 ?_
       first | refine tk 12 ?_ | refine ts 12 ?_
       first
        | refine ts 13 ?_
        | (refine rd1 13 (fun K hK => ?_); go_simp; (go_at_call 91; refine (specNum _ _).mono ?_; rintro e w' ⟨rfl, rfl⟩; rw [hnum]); go_wp2_with fail; refine hK.out _ _ ?_ (fun hHeld => ?_); (focus ((try dsimp only); (exact ⟨hc0, hc1, hc2⟩))); clear hK K; (try simp only [Act.put, pa, pb, pc]))
       first | refine tk 14 ?_ | refine ts 14 ?_
       refine tk 15 ?_
       refine tk 16 ?_
       first | refine tk 17 ?_ | refine ts 17 ?_
       first | refine tk 18 ?_ | refine ts 18 ?_
       first | refine tk 19 ?_ | refine ts 19 ?_
       first | refine tk 20 ?_ | refine ts 20 ?_
       first | refine tk 21 ?_ | refine ts 21 ?_
       first | refine tk 22 ?_ | refine ts 22 ?_
       first | refine tk 23 ?_ | refine ts 23 ?_
       first | refine tk 24 ?_ | refine ts 24 ?_
       first | refine tk 25 ?_ | refine ts 25 ?_
       first | refine tk 26 ?_ | refine ts 26 ?_
       first | refine tk 27 ?_ | refine ts 27 ?_
       first | refine tk 28 ?_ | refine ts 28 ?_
       first | refine tk 29 ?_ | refine ts 29 ?_
       refine tk 30 ?_
       refine tk 31 ?_
       first | refine tk 32 ?_ | refine ts 32 ?_
       first | refine tk 33 ?_ | refine ts 33 ?_
       first | refine tk 34 ?_ | refine ts 34 ?_
       first | refine tk 35 ?_ | refine ts 35 ?_
       first | refine tk 36 ?_ | refine ts 36 ?_
       first | refine tk 37 ?_ | refine ts 37 ?_
       first | refine tk 38 ?_ | refine ts 38 ?_
       first | refine tk 39 ?_ | refine ts 39 ?_
       first | refine tk 40 ?_ | refine ts 40 ?_
       first | refine tk 41 ?_ | refine ts 41 ?_
       first | refine tk 42 ?_ | refine ts 42 ?_
       first | refine tk 43 ?_ | refine ts 43 ?_
       first | refine tk 44 ?_ | refine ts 44 ?_
       first | refine tk 45 ?_ | refine ts 45 ?_
       first | refine tk 46 ?_ | refine ts 46 ?_
       first | refine tk 47 ?_ | refine ts 47 ?_
       refine tk 48 ?_
       refine wpAnyH_done (by kernel_rfl) ?_ _
       go_wp2
       go_ret
       exact ⟨ret_bool HN.out.symm, hb.drew⟩
  ·
   have hkI : decide ((k : Int) < (l.length : Int)) = false := decide_eq_false (by omega)
   have HK := Lib.hid (show k = l.length from by omega)
   go_wp2
   go_ret
   refine ⟨ret_bool ?_, hb⟩
   by_cases h6 : l.length ≤ 6
   ·
    rw [writesB_yes ⟨h6, fun i h => HALL.out i h (by have := HK.out; omega), fun i h => HORD.out i h (by have := HK.out; omega)⟩]
    simp; omega
   ·
    rw [writesB_no fun h => h6 h.len]
    simp; omega

set_option maxHeartbeats 1000000 in
theorem implWrite (x : X) (w : World) (hs : x.k.size ≤ maxLen) : Calls Tryz.prog 84 #[.agg #[.string x.k, .int .i64 x.n, .bool x.g]] w fun e w' => e = .returned (.bool (writeB x)) ∧ Below w.heap.size w w' := by
 go_enter Tryz.func84, Tryz.ntmps84
 go_wp2_with (first | (go_at_call 59; refine (implKey _ _ hs).mono ?_; rintro e w' ⟨rfl, rfl⟩) | (go_at_call 60; refine (implNum _ _).mono ?_; rintro e w' ⟨rfl, rfl⟩))
 all_goals
  go_ret
  refine ⟨ret_bool ?_, (by (repeat (first | exact Below.refl _ _ | (refine Below.setCell ?_ (by simp <;> omega) _) | (refine Below.alloc ?_ (by simp <;> omega) _) | (refine Below.drew ?_))))⟩
  unfold writeB
  first | (simp_all <;> done) | (rw [Bool.eq_iff_iff]; simp_all <;> omega)

set_option maxHeartbeats 400000 in
theorem sortKeyX_c (s : ByteArray) (n : Int) (g : Bool) (w : World) :
  Calls Tryz.prog 167 #[.agg #[.string s, .int .i64 n, .bool g]] w fun e w' => e = .returned (.string s) ∧ Below w.heap.size w w' := by
 go_enter Tryz.func167, Tryz.ntmps167
 go_wp2
 go_ret
 exact ⟨rfl, (by (repeat (first | exact Below.refl _ _ | (refine Below.setCell ?_ (by simp <;> omega) _) | (refine Below.alloc ?_ (by simp <;> omega) _) | (refine Below.drew ?_))))⟩
theorem method_keyX (s : ByteArray) (n : Int) (g : Bool) (w : World) :
  (method 334 98 (.agg #[.string s, .int .i64 n, .bool g]) "loop.example/engrosser/impl.sortKey").run Tryz.prog w = .ok (167, .agg #[.string s, .int .i64 n, .bool g]) w := by kernel_rfl

set_option maxHeartbeats 2000000 in
theorem ascendingX_c (A : Option Addr) (c : Nat) (l : List X) (w : World) (hc : l.length ≤ 2097152) (hr : RdG w w.heap.size A l) :
  Calls Tryz.prog 85 #[.slice A l.length c] w fun e w' => e = .returned (.bool (ascXB l)) ∧ Below w.heap.size w w' := by
 have hm := method_keyX
 go_enter Tryz.func85, Tryz.ntmps85
 go_wp2
 go_loopw [3] (fun i W => ∃ k : Nat, 1 ≤ k ∧ (k ≤ l.length ∨ k = 1) ∧ i = .int .i64 k ∧ Below w.heap.size w W ∧ (∀ i (h : i + 1 < l.length), i + 1 < k → lt l[i].k l[i + 1].k = true)) (fun i _ => l.length - (intOf i).toNat)
 case atStart => exact ⟨1, by omega, .inr rfl, rfl, Below.refl _ _, fun i h h1 => absurd h1 (by omega)⟩
 case round =>
  obtain ⟨k, hk1, hk, rfl, hb, hall⟩ := hrel
  have HALL := Lib.hid hall
  have HK := Lib.hid hk
  clear hall hk
  by_cases hkl : k < l.length
  ·
   obtain ⟨b, o, rfl, hbB, hc0, hc1, hc2⟩ := (hr.below hb).atX hkl
   obtain ⟨hp0, hp1, hp2⟩ := (hr.below hb).fixX rfl (i := k - 1) (by omega)
   have hq : b < wr.heap.size := Nat.lt_of_lt_of_le hbB hb.size
   have hi1 : ((k : Int) - 1).toNat = k - 1 := by omega
   have hi2 : (0 : Int) ≤ (k : Int) - 1 := by omega
   have hi3 : (k : Int) - 1 < (l.length : Int) := by omega
   have hi4 : (1 : Int) ≤ (k : Int) := by omega
   have hi5 : (0 : Int) ≤ (k : Int) := by omega
   have hi6 : (k : Int) < (l.length : Int) := by omega
   have hi7 : IntKind.i64.wrap ((k : Int) - 1) = (k : Int) - 1 := IntWalk.i64_in _ (by omega)
   have hbT : Below wr.heap.size wr wr.drew := (Below.refl _ _).drew
   cases hlt : Op.bytesLess (l[k - 1]'(by omega)).k.toList l[k].k.toList
   ·
    have HN := Lib.hid (ascXB_no fun h : AscX l => by
     have := h (k - 1) (by omega)
     have e : k - 1 + 1 = k := by omega
     simp only [e] at this
     unfold lt at this
     rw [hlt] at this; cases this)
    go_wp2
    go_region_held3 (fun W => W.cell? ⟨b, o + k * 3, none⟩ = some (.string l[k].k) ∧ W.cell? ⟨b, o + k * 3 + 1, none⟩ = some (.int .i64 l[k].n) ∧ W.cell? ⟨b, o + k * 3 + 2, none⟩ = some (.bool l[k].g) ∧ W.cell? ⟨b, o + (k - 1) * 3, none⟩ = some (.string (l[k - 1]'(by omega)).k) ∧ W.cell? ⟨b, o + (k - 1) * 3 + 1, none⟩ = some (.int .i64 (l[k - 1]'(by omega)).n) ∧ W.cell? ⟨b, o + (k - 1) * 3 + 2, none⟩ = some (.bool (l[k - 1]'(by omega)).g)) (first | exact ⟨hc0, hc1, hc2, hp0, hp1, hp2⟩ | exact ⟨(hbT.cell hq).trans hc0, (hbT.cell hq).trans hc1, (hbT.cell hq).trans hc2, (hbT.cell hq).trans hp0, (hbT.cell hq).trans hp1, (hbT.cell hq).trans hp2⟩) (first | (go_at_call 167; refine (sortKeyX_c _ _ _ _).mono ?_; rintro e w' ⟨rfl, hb2⟩; have hbT := hbT.trans (hb2.mono hbT.size); clear hb2))
    go_wp2
    go_ret
    exact ⟨ret_bool HN.out.symm, hb.trans (hbT.mono hb.size)⟩
   ·
    have HL := Lib.hid (show lt (l[k - 1]'(by omega)).k l[k].k = true from hlt)
    go_wp2
    go_region_held3 (fun W => W.cell? ⟨b, o + k * 3, none⟩ = some (.string l[k].k) ∧ W.cell? ⟨b, o + k * 3 + 1, none⟩ = some (.int .i64 l[k].n) ∧ W.cell? ⟨b, o + k * 3 + 2, none⟩ = some (.bool l[k].g) ∧ W.cell? ⟨b, o + (k - 1) * 3, none⟩ = some (.string (l[k - 1]'(by omega)).k) ∧ W.cell? ⟨b, o + (k - 1) * 3 + 1, none⟩ = some (.int .i64 (l[k - 1]'(by omega)).n) ∧ W.cell? ⟨b, o + (k - 1) * 3 + 2, none⟩ = some (.bool (l[k - 1]'(by omega)).g)) (first | exact ⟨hc0, hc1, hc2, hp0, hp1, hp2⟩ | exact ⟨(hbT.cell hq).trans hc0, (hbT.cell hq).trans hc1, (hbT.cell hq).trans hc2, (hbT.cell hq).trans hp0, (hbT.cell hq).trans hp1, (hbT.cell hq).trans hp2⟩) (first | (go_at_call 167; refine (sortKeyX_c _ _ _ _).mono ?_; rintro e w' ⟨rfl, hb2⟩; have hbT := hbT.trans (hb2.mono hbT.size); clear hb2))
    go_wp2
    go_roundw
    case rel => exact ⟨k + 1, by omega, .inl (by omega), by go_num, hb.trans (hbT.mono hb.size), fun i h h1 => by
     by_cases e : i + 1 = k
     ·
      have := HL.out
      have e2 : k - 1 = i := by omega
      simp only [e2] at this
      simpa [e] using this
     ·
      exact HALL.out i h (by omega)⟩
    case measure => simp [intOf]; omega
  ·
   go_wp2
   go_ret
   exact ⟨ret_bool (ascXB_yes fun i h => HALL.out i h (by have := HK.out; omega)).symm, hb⟩

set_option maxHeartbeats 1000000 in
theorem implWritesOk (A : Option Addr) (c : Nat) (l : List X) (w : World) (hfit : FitXs l) (hc : l.length ≤ 2097152) (hr : RdG w w.heap.size A l) :
  Calls Tryz.prog 51 #[.slice A l.length c] w fun e w' => e = .returned (.bool (writesB l)) ∧ Below w.heap.size w w' := by
 by_cases h6 : l.length ≤ 6
 ·
  have hd6 : decide (6 < l.length) = false := decide_eq_false (by omega)
  go_enter Tryz.func51, Tryz.ntmps51
  go_wp2
  go_loopw [10] (fun i W => ∃ k : Nat, k ≤ l.length ∧ i = .int .i64 k ∧ Below w.heap.size w W ∧ (∀ j (h : j < l.length), j < k → writeB l[j] = true)) (fun i _ => l.length - (intOf i).toNat)
  case atStart => exact ⟨0, Nat.zero_le _, rfl, Below.refl _ _, fun j h h0 => absurd h0 (by omega)⟩
  case round =>
   obtain ⟨k, hk, rfl, hb, hall⟩ := hrel
   have HALL := Lib.hid hall
   clear hall
   by_cases hkl : k < l.length
   ·
    obtain ⟨b, o, rfl, hbB, hc0, hc1, hc2⟩ := (hr.below hb).atX hkl
    have hs := (hfit _ (List.getElem_mem hkl)).1
    have hkI := lenI _ _ hkl
    cases hw : writeB l[k]
    ·
     have HN := Lib.hid (writesB_no fun h : WritesP l => by have := h.each k hkl; rw [hw] at this; cases this)
     go_wp2_with ((go_at_call 84; refine (implWrite l[k] _ hs).mono ?_; rintro e w' ⟨rfl, hb2⟩; rw [hw]))
     go_ret
     exact ⟨ret_bool HN.out.symm, hb.trans ((below_next (below_alloc (Below.refl _ wr) _) hb2).mono hb.size)⟩
    ·
     have HV := Lib.hid hw
     go_wp2_with ((go_at_call 84; refine (implWrite l[k] _ hs).mono ?_; rintro e w' ⟨rfl, hb2⟩; rw [hw]))
     go_roundw
     case rel => exact ⟨k + 1, by omega, by go_num, hb.trans ((below_next (below_alloc (Below.refl _ wr) _) hb2).mono hb.size), fun j h h1 => by
      by_cases e : j = k
      ·
       subst e; exact HV.out
      ·
       exact HALL.out j h (by omega)⟩
     case measure => simp [intOf]; omega
   ·
    have HE := Lib.hid (show writesB l = ascXB l from by
     by_cases ha : AscX l
     ·
      rw [writesB_yes ⟨h6, fun i h => HALL.out i h (by omega), ha⟩, ascXB_yes ha]
     ·
      rw [writesB_no fun h => ha h.asc, ascXB_no ha])
    have hkI : decide ((k : Int) < (l.length : Int)) = false := decide_eq_false (by omega)
    have hr2 := (hr.below hb).more hb.size
    go_wp2_with ((go_at_call 85; refine (ascendingX_c _ _ _ _ hc hr2).mono ?_; rintro e w' ⟨rfl, hb2⟩))
    go_ret
    exact ⟨ret_bool HE.out.symm, hb.trans (hb2.mono hb.size)⟩
 ·
  have HN := Lib.hid (writesB_no fun h : WritesP l => h6 h.len)
  have hd6 : decide (6 < l.length) = true := decide_eq_true (by omega)
  have hd6' : decide ((6 : Int) < (l.length : Int)) = true := decide_eq_true (by omega)
  go_enter Tryz.func51, Tryz.ntmps51
  go_wp2
  go_ret
  exact ⟨ret_bool HN.out.symm, Below.refl _ _⟩

theorem specWritesOkO {v : Value} {l : List X} {base : Nat} {w : World} (h : OwnG w base v l) (hf : FitXs l) :
  Calls Tryz.prog 56 #[v] w fun e w' => e = .returned (.bool (writesB l)) ∧ Below w.heap.size w w' := by
 obtain ⟨A, c, rfl, h1, h2, hr⟩ := h.read
 exact specWritesOk A c l w hf h1 h2 hr
theorem implWritesOkO {v : Value} {l : List X} {base : Nat} {w : World} (h : OwnG w base v l) (hf : FitXs l) (hl : l.length ≤ 1048576) :
  Calls Tryz.prog 51 #[v] w fun e w' => e = .returned (.bool (writesB l)) ∧ Below w.heap.size w w' := by
 obtain ⟨A, c, rfl, h1, h2, hr⟩ := h.read
 exact implWritesOk A c l w hf (by omega) hr

end Go.Proofs.YtnijgbinjbikbaaGreat
