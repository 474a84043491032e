/- The whole draws of chapter 2: a history and a key. -/
import Derived.Test.YtbhdgalkedegjaaDv5
namespace Go.Proofs.Ytbhdgalkedegjaa
open Go.RowKit
set_option linter.unusedVariables false
set_option maxRecDepth 100000

set_option maxHeartbeats 4000000 in
theorem drawVersLast (A : Option Addr) (n c : Nat) (w : World) (hc : n ≤ c) (hcm : c ≤ maxLen) (hr : RdB w w.heap.size A n) : Calls Try.prog 50 #[.slice A n c] w (DrawnVS w) := by
  have hR0 := blkA w #[.int .i64 0, .slice none 0 0] 29
  have hw0 : Below w.heap.size w (w.alloc (.cells #[.int .i64 0, .slice none 0 0] 29)) := below_alloc (Below.refl _ _) _
  go_enter Try.func50, Try.ntmps50
  go_wp2_with fail
  refine (open_d A n c _ hc hcm (hr.next hw0)).mono ?_
  rintro e w1 ⟨m, rfl, hq1, hb1⟩
  have hg : (w.alloc (.cells #[.int .i64 0, .slice none 0 0] 29)).heap.size = w.heap.size + 1 := World.size_alloc _ _
  rw [hg] at hq1
  have hw1 := below_next hw0 hb1
  have hR1 := hR0.next hb1
  obtain ⟨g, HG, hg1⟩ : ∃ g, Hid (w.heap.size + 1 = g) ∧ w.heap.size < g := ⟨_, Lib.hid rfl, by omega⟩
  rw [HG.out] at hq1
  go_wp2_with fail
  try simp only [World.size_alloc]
  try rw [HG.out]
  refine (some_d g A m c 0 w1 hq1 (by omega)).mono ?_
  rintro e w2 ⟨z2, v2, l2, rfl, hO2, hf2, ⟨hz21, hz22⟩, hl2, hd2⟩
  obtain ⟨q2, h21, h22, hq2⟩ := hd2.rdr
  have hR2 := hR1.drawn (by omega) hd2.grown
  have hw2 : Below w.heap.size w w2 := hw1.grown hd2.grown hw1.size (fun k hk => by have := Option.some.inj hk; omega)
  obtain ⟨A2, c2, rfl, hx1, hx2, hr2⟩ := hO2.read
  clear hx1 hx2
  go_wp2_with fail
  refine (bentV_d g A m c q2 z2 A2 c2 l2 0 w2 hq2 (by omega) hf2 hz21 hz22 (by omega) (by omega) hr2).mono ?_
  rintro e w3 ⟨z, v3, l, rfl, hO3, hf, ⟨hz1, hz2⟩, hl, hd3⟩
  obtain ⟨q3, h31, h32, hq3⟩ := hd3.rdr
  have hR3 := hR2.drawn (by omega) hd3.grown
  have hw3 : Below w.heap.size w w3 := hw2.grown hd3.grown hw2.size (fun k hk => by have := Option.some.inj hk; omega)
  have HGL : Hid (g < w2.heap.size) := hq2.lt
  have HLO : Hid (∀ g, (v3 : Value).ownBlock = some g → w.heap.size + 1 ≤ g) := fun g hg => by have := (hO3.block_lt hg).1; have := hR2.lt; omega
  have HLG : Hid (∀ k, (v3 : Value).ownBlock = some k → g < k) := fun k hk => by have := (hO3.block_lt hk).1; have := HGL.out; omega
  have hs2 := hw2.size
  have hO3l := hO3.low hs2
  clear hO3 hO2 hr2 hq2 hd3 hd2 hq1
  obtain ⟨b3, c3, rfl, hy1, hy2, hy3⟩ := hO3l.read
  have hb4 : Below w3.heap.size w3 (w3.alloc (.cells #[.int .i64 z, .slice b3 l.length c3] 29)) := below_alloc (Below.refl _ _) _
  have hX4 := blkA w3 #[.int .i64 z, .slice b3 l.length c3] 29
  have hR4 := hR3.next hb4
  have hw4 := below_next hw3 hb4
  have hq4 := hq3.next hb4
  have hO4 := hO3l.next hb4
  have hs3 := hw3.size
  have hR3l := hR3.lt
  have hgl := hq3.lt
  have HOB : Hid (∀ g, (.slice b3 l.length c3 : Value).ownBlock = some g → w.heap.size + 1 ≤ g) := fun g hg => HLO.out g hg
  have hrl := hO4.rd'.2.2.2
  have HOG : Hid (∀ k, (.slice b3 l.length c3 : Value).ownBlock = some k → g < k) := fun k hk => by have := HLG.out k hk; omega
  by_cases hl0 : l.length = 0
  · have hld : decide (0 < l.length) = false := decide_eq_false (by omega)
    clear hl0
    go_wp2
    have hX4d : Blk (w3.alloc (.cells #[.int .i64 z, .slice b3 l.length c3] 29)).drew w3.heap.size 29 #[.int .i64 z, .slice b3 l.length c3] := hX4
    have hq4d : Rdr (w3.alloc (.cells #[.int .i64 z, .slice b3 l.length c3] 29)).drew g A m c q3 := hq4.next (Below.refl _ _).drew
    have hR4d : Blk (w3.alloc (.cells #[.int .i64 z, .slice b3 l.length c3] 29)).drew w.heap.size 29 #[.int .i64 0, .slice none 0 0] := hR4
    have hw4d : Below w.heap.size w (w3.alloc (.cells #[.int .i64 z, .slice b3 l.length c3] 29)).drew := hw4.drew
    have hO4d : OwnG (w3.alloc (.cells #[.int .i64 z, .slice b3 l.length c3] 29)).drew w.heap.size (.slice b3 l.length c3) l := hO4
    refine wp_region_held_drew (S := (fun W => W.cell? ⟨w3.heap.size, 0, none⟩ = some (.int .i64 z) ∧ W.cell? ⟨w3.heap.size, 1, none⟩ = some (.slice b3 l.length c3))) (by kernel_rfl) ?_ (fun hHeld => ?_)
    focus ((try dsimp only); (exact ⟨by rw [hX4d.cell]; rfl, by rw [hX4d.cell]; rfl⟩))
    (refine tkW (i := 0) (v := ?_) (by (simp only [ga, gc]; rfl)) (by kernel_rfl) (by (intro _ _ _ h; exact h)) (by rfl) ?_ (by assumption) ?_; rotate_left; (focus ((intro w hSw; (try dsimp only at hSw); go_simp) <;> with_reducible rfl)); (try simp only [Act.put, pa, pb, pc]))
    (refine tkW (i := 1) (v := ?_) (by (simp only [ga, gb, gc]; rfl)) (by kernel_rfl) (by (intro _ _ _ h; exact h)) (by rfl) ?_ (by assumption) ?_; rotate_left; (focus ((intro w hSw; (try dsimp only at hSw); go_simp) <;> with_reducible rfl)); (try simp only [Act.put, pa, pb, pc]))
    (refine wpAnyH_ready (rs := [2]) (by kernel_rfl) (by simp) ?_; refine AllReadyH.cons (by (simp only [ga, gb, gc]; rfl)) (fun K hK => ?_) AllReadyH.nil; go_simp; (go_at_call 98; refine (key_d g A m c q3 _ hq4d (by omega)).mono ?_; rintro e w8 ⟨s, rfl, hs, hd8⟩; have hX8 := hX4d.drawn (by omega) hd8.grown; have hR8 := hR4d.drawn (by omega) hd8.grown; have hw8 : Below w.heap.size w w8 := hw4d.grown hd8.grown hw4d.size (fun k hk => by have := Option.some.inj hk; omega); have hO8 := hO4d.kept hd8.grown (fun k hk e => by have := HOG.out k hk; have := Option.some.inj e; omega); have d0 : w8.cell? ⟨w.heap.size, 0, none⟩ = some (.int .i64 0) := (by rw [hR8.cell]; rfl); have d1 : w8.cell? ⟨w.heap.size, 1, none⟩ = some (.slice none 0 0) := (by rw [hR8.cell]; rfl); have f0 := hR8.free 0; have f1 := hR8.free 1); go_wp2_with fail; refine hK.out _ _ ?_ (fun hHeld => ?_); (focus ((try dsimp only); (exact ⟨by rw [hX8.cell]; rfl, by rw [hX8.cell]; rfl⟩))); clear hK K; (try simp only [Act.put, pa, pb, pc]))
    have hXs := (hX8.setOther (a := ⟨w.heap.size, 0, none⟩) (show w3.heap.size ≠ w.heap.size from by omega) (.int .i64 z)).setOther (a := ⟨w.heap.size, 1, none⟩) (show w3.heap.size ≠ w.heap.size from by omega) (.slice b3 l.length c3)
    refine wpAnyH_ready (rs := [3]) (by kernel_rfl) (by simp) (AllReadyH.cons (by (simp only [ga, gb, gc]; rfl)) (fun K hK => ?_) AllReadyH.nil)
    go_simp
    refine hK.out _ _ ?_ (fun hHeld => ?_)
    focus ((try dsimp only); (exact ⟨by rw [hXs.cell]; rfl, by rw [hXs.cell]; rfl⟩))
    clear hK K
    try simp only [Act.put, pa, pb, pc]
    (refine tkW (i := 4) (v := ?_) (by (simp only [ga, gb, gc]; rfl)) (by kernel_rfl) (by (intro _ _ _ h; exact h)) (by rfl) ?_ (by assumption) ?_; rotate_left; (focus ((intro w hSw; (try dsimp only at hSw); go_simp) <;> with_reducible rfl)); (try simp only [Act.put, pa, pb, pc]))
    refine wpAnyH_done (by kernel_rfl) ?_ _
    go_wp2
    refine bodyPost_ret (v := .tuple #[.agg #[.int .i64 z, .slice b3 l.length c3], .string s]) (by simp [results, Try.results50, go_sem, d0, d1]) rfl ⟨z, .slice b3 l.length c3, l, s, rfl, ?_, hf, ⟨by omega, by omega⟩, by omega, Nat.le_trans hs (by decide), ?_⟩
    · have hne : ∀ g, (.slice b3 l.length c3 : Value).ownBlock = some g → g ≠ w.heap.size := fun g hg => by have := HOB.out g hg; omega
      exact (hO8.setCell (a := ⟨w.heap.size, 0, none⟩) hne _).setCell (a := ⟨w.heap.size, 1, none⟩) hne _
    · exact (hw8.setCell (Nat.le_refl _) _).setCell (Nat.le_refl _) _
  have hld : decide (0 < l.length) = true := decide_eq_true (by omega)
  go_wp2_with fail
  refine (pick_z g A m c q3 2 _ hq4 (by omega) (by omega) (by omega)).mono ?_
  rintro e w5 ⟨k5, rfl, hk5, hd5⟩
  obtain ⟨q5, h51, h52, hq5⟩ := hd5.rdr
  have hX5 := hX4.drawn (by omega) hd5.grown; have hR5 := hR4.drawn (by omega) hd5.grown; have hw5 : Below w.heap.size w w5 := hw4.grown hd5.grown hw4.size (fun k hk => by have := Option.some.inj hk; omega); have hO5 := hO4.kept hd5.grown (fun k hk e => by have := HOG.out k hk; have := Option.some.inj e; omega)
  have hcX0 : w5.cell? ⟨w3.heap.size, 0, none⟩ = some (.int .i64 z) := (by rw [hX5.cell]; rfl)
  have hcX1 : w5.cell? ⟨w3.heap.size, 1, none⟩ = some (.slice b3 l.length c3) := (by rw [hX5.cell]; rfl)
  by_cases hk0 : k5 = 0
  · have hkd : ((k5 : Int) == 0) = true := by simp [hk0]
    obtain ⟨eb, eo, rfl, hqb, _⟩ := (hO5.rd'.2.2.2).atV (show 0 < l.length by omega)
    go_wp2
    have hX5d : Blk w5.drew w3.heap.size 29 #[.int .i64 z, .slice (some ⟨eb, eo, none⟩) l.length c3] := hX5
    have hq5d : Rdr w5.drew g A m c q5 := hq5.next (Below.refl _ _).drew
    have hR5d : Blk w5.drew w.heap.size 29 #[.int .i64 0, .slice none 0 0] := hR5
    have hw5d : Below w.heap.size w w5.drew := hw5.drew
    have hO5d : OwnG w5.drew w.heap.size (.slice (some ⟨eb, eo, none⟩) l.length c3) l := hO5
    refine wp_region_held_drew (S := (fun W => W.cell? ⟨w3.heap.size, 0, none⟩ = some (.int .i64 z) ∧ W.cell? ⟨w3.heap.size, 1, none⟩ = some (.slice (some ⟨eb, eo, none⟩) l.length c3) ∧ ∀ i (h : i < l.length), W.cell? ⟨eb, eo + i * 4, none⟩ = some (.string l[i].k))) (by kernel_rfl) ?_ (fun hHeld => ?_)
    focus ((try dsimp only); (exact ⟨by rw [hX5d.cell]; rfl, by rw [hX5d.cell]; rfl, fun i hi => ((hO5d.rd'.2.2.2).fixV rfl hi).1⟩))
    (refine tkW (i := 0) (v := ?_) (by (simp only [ga, gc]; rfl)) (by kernel_rfl) (by (intro _ _ _ h; exact h)) (by rfl) ?_ (by assumption) ?_; rotate_left; (focus ((intro w hSw; obtain ⟨hS1, hS2, -⟩ := hSw; go_simp) <;> with_reducible rfl)); (try simp only [Act.put, pa, pb, pc]))
    (refine tkW (i := 1) (v := ?_) (by (simp only [ga, gb, gc]; rfl)) (by kernel_rfl) (by (intro _ _ _ h; exact h)) (by rfl) ?_ (by assumption) ?_; rotate_left; (focus ((intro w hSw; obtain ⟨hS1, hS2, -⟩ := hSw; go_simp) <;> with_reducible rfl)); (try simp only [Act.put, pa, pb, pc]))
    (refine tkW (i := 2) (v := ?_) (by (simp only [ga, gb, gc]; rfl)) (by kernel_rfl) (by (intro _ _ _ h; exact h)) (by rfl) ?_ (by assumption) ?_; rotate_left; (focus ((intro w hSw; obtain ⟨hS1, hS2, -⟩ := hSw; go_simp) <;> with_reducible rfl)); (try simp only [Act.put, pa, pb, pc]))
    (refine tkW (i := 3) (v := ?_) (by (simp only [ga, gb, gc]; rfl)) (by kernel_rfl) (by (intro _ _ _ h; exact h)) (by rfl) ?_ (by assumption) ?_; rotate_left; (focus ((intro w hSw; obtain ⟨hS1, hS2, -⟩ := hSw; go_simp) <;> with_reducible rfl)); (try simp only [Act.put, pa, pb, pc]))
    (refine tkW (i := 4) (v := ?_) (by (simp only [ga, gb, gc]; rfl)) (by kernel_rfl) (by (intro _ _ _ h; exact h)) (by rfl) ?_ (by assumption) ?_; rotate_left; (focus ((intro w hSw; obtain ⟨hS1, hS2, -⟩ := hSw; go_simp) <;> with_reducible rfl)); (try simp only [Act.put, pa, pb, pc]))
    (refine tkW (i := 5) (v := ?_) (by (simp only [ga, gb, gc]; rfl)) (by kernel_rfl) (by (intro _ _ _ h; exact h)) (by rfl) ?_ (by assumption) ?_; rotate_left; (focus ((intro w hSw; obtain ⟨hS1, hS2, -⟩ := hSw; go_simp) <;> with_reducible rfl)); (try simp only [Act.put, pa, pb, pc]))
    (refine tkW (i := 6) (v := ?_) (by (simp only [ga, gb, gc]; rfl)) (by kernel_rfl) (by (intro _ _ _ h; exact h)) (by rfl) ?_ (by assumption) ?_; rotate_left; (focus ((intro w hSw; obtain ⟨hS1, hS2, -⟩ := hSw; go_simp) <;> with_reducible rfl)); (try simp only [Act.put, pa, pb, pc]))
    (refine wpAnyH_ready (rs := [7]) (by kernel_rfl) (by simp) ?_; refine AllReadyH.cons (by (simp only [ga, gb, gc]; rfl)) (fun K hK => ?_) AllReadyH.nil; go_simp; (go_at_call 97; refine (pick_z g A m c q5 (l.length : Int) _ hq5d (by omega) (by omega) (by omega)).mono ?_; rintro e w8 ⟨k8, rfl, hk8, hd8⟩; have hX8 := hX5d.drawn (by omega) hd8.grown; have hR8 := hR5d.drawn (by omega) hd8.grown; have hw8 : Below w.heap.size w w8 := hw5d.grown hd8.grown hw5d.size (fun k hk => by have := Option.some.inj hk; omega); have hO8 := hO5d.kept hd8.grown (fun k hk e => by have := HOG.out k hk; have := Option.some.inj e; omega); have d0 : w8.cell? ⟨w.heap.size, 0, none⟩ = some (.int .i64 0) := (by rw [hR8.cell]; rfl); have d1 : w8.cell? ⟨w.heap.size, 1, none⟩ = some (.slice none 0 0) := (by rw [hR8.cell]; rfl); have f0 := hR8.free 0; have f1 := hR8.free 1; have hk8n : k8 < l.length := (by omega); have hHS := hHeld); go_wp2_with fail; refine hK.out _ _ ?_ (fun hHeld => ?_); (focus ((try dsimp only); (exact ⟨by rw [hX8.cell]; rfl, by rw [hX8.cell]; rfl, fun i hi => ((hO8.rd'.2.2.2).fixV rfl hi).1⟩))); clear hK K; (try simp only [Act.put, pa, pb, pc]))
    (refine tkW (i := 8) (v := ?_) (by (simp only [ga, gb, gc]; rfl)) (by kernel_rfl) (by (intro _ _ _ h; exact h)) (by rfl) ?_ (by assumption) ?_; rotate_left; (focus ((intro w hSw; obtain ⟨hS1, hS2, -⟩ := hSw; go_simp) <;> with_reducible rfl)); (try simp only [Act.put, pa, pb, pc]))
    (refine tkW (i := 9) (v := ?_) (by (simp only [ga, gb, gc]; rfl)) (by kernel_rfl) (by (intro _ _ _ h; exact h)) (by rfl) ?_ (by assumption) ?_; rotate_left; (focus ((intro w hSw; obtain ⟨hS1, hS2, -⟩ := hSw; go_simp) <;> with_reducible rfl)); (try simp only [Act.put, pa, pb, pc]))
    (refine tkW (i := 10) (v := ?_) (by (simp only [ga, gb, gc]; rfl)) (by kernel_rfl) (by (intro _ _ _ h; exact h)) (by rfl) ?_ (by assumption) ?_; rotate_left; (focus ((intro w hSw; have hE := hSw.2.2 k8 hk8n; clear hSw; go_simp) <;> with_reducible rfl)); (try simp only [Act.put, pa, pb, pc]))
    have hOB8 : ∀ g, (Value.slice (some ⟨eb, eo, none⟩) l.length c3).ownBlock = some g → g ≠ w.heap.size := fun g hg => by have := HOB.out g hg; omega
    have hXs := (hX8.setOther (a := ⟨w.heap.size, 0, none⟩) (show w3.heap.size ≠ w.heap.size from by omega) (.int .i64 z)).setOther (a := ⟨w.heap.size, 1, none⟩) (show w3.heap.size ≠ w.heap.size from by omega) (.slice (some ⟨eb, eo, none⟩) l.length c3)
    have hOs := (hO8.setCell (a := ⟨w.heap.size, 0, none⟩) hOB8 (.int .i64 z)).setCell (a := ⟨w.heap.size, 1, none⟩) hOB8 (.slice (some ⟨eb, eo, none⟩) l.length c3)
    refine wpAnyH_ready (rs := [11]) (by kernel_rfl) (by simp) (AllReadyH.cons (by (simp only [ga, gb, gc]; rfl)) (fun K hK => ?_) AllReadyH.nil)
    go_simp
    refine hK.out _ _ ?_ (fun hHeld => ?_)
    focus ((try dsimp only); (exact ⟨by rw [hXs.cell]; rfl, by rw [hXs.cell]; rfl, fun i hi => ((hOs.rd'.2.2.2).fixV rfl hi).1⟩))
    clear hK K
    try simp only [Act.put, pa, pb, pc]
    (refine tkW (i := 12) (v := ?_) (by (simp only [ga, gb, gc]; rfl)) (by kernel_rfl) (by (intro _ _ _ h; exact h)) (by rfl) ?_ (by assumption) ?_; rotate_left; (focus ((intro w hSw; obtain ⟨hS1, hS2, -⟩ := hSw; go_simp) <;> with_reducible rfl)); (try simp only [Act.put, pa, pb, pc]))
    refine wpAnyH_done (by kernel_rfl) ?_ _
    go_wp2
    refine bodyPost_ret (v := .tuple #[.agg #[.int .i64 z, .slice (some ⟨eb, eo, none⟩) l.length c3], .string l[k8].k]) (by simp [results, Try.results50, go_sem, d0, d1]) rfl ⟨z, .slice (some ⟨eb, eo, none⟩) l.length c3, l, l[k8].k, rfl, ?_, hf, ⟨by omega, by omega⟩, by omega, (hf _ (List.getElem_mem hk8n)).1, ?_⟩
    · have hne : ∀ g, (.slice (some ⟨eb, eo, none⟩) l.length c3 : Value).ownBlock = some g → g ≠ w.heap.size := fun g hg => by have := HOB.out g hg; omega
      exact (hO8.setCell (a := ⟨w.heap.size, 0, none⟩) hne _).setCell (a := ⟨w.heap.size, 1, none⟩) hne _
    · exact (hw8.setCell (Nat.le_refl _) _).setCell (Nat.le_refl _) _
  · have hkd : ((k5 : Int) == 0) = false := by simp; omega
    go_wp2
    have hX5d : Blk w5.drew w3.heap.size 29 #[.int .i64 z, .slice b3 l.length c3] := hX5
    have hq5d : Rdr w5.drew g A m c q5 := hq5.next (Below.refl _ _).drew
    have hR5d : Blk w5.drew w.heap.size 29 #[.int .i64 0, .slice none 0 0] := hR5
    have hw5d : Below w.heap.size w w5.drew := hw5.drew
    have hO5d : OwnG w5.drew w.heap.size (.slice b3 l.length c3) l := hO5
    refine wp_region_held_drew (S := (fun W => W.cell? ⟨w3.heap.size, 0, none⟩ = some (.int .i64 z) ∧ W.cell? ⟨w3.heap.size, 1, none⟩ = some (.slice b3 l.length c3))) (by kernel_rfl) ?_ (fun hHeld => ?_)
    focus ((try dsimp only); (exact ⟨by rw [hX5d.cell]; rfl, by rw [hX5d.cell]; rfl⟩))
    (refine tkW (i := 0) (v := ?_) (by (simp only [ga, gc]; rfl)) (by kernel_rfl) (by (intro _ _ _ h; exact h)) (by rfl) ?_ (by assumption) ?_; rotate_left; (focus ((intro w hSw; (try dsimp only at hSw); go_simp) <;> with_reducible rfl)); (try simp only [Act.put, pa, pb, pc]))
    (refine tkW (i := 1) (v := ?_) (by (simp only [ga, gb, gc]; rfl)) (by kernel_rfl) (by (intro _ _ _ h; exact h)) (by rfl) ?_ (by assumption) ?_; rotate_left; (focus ((intro w hSw; (try dsimp only at hSw); go_simp) <;> with_reducible rfl)); (try simp only [Act.put, pa, pb, pc]))
    (refine wpAnyH_ready (rs := [2]) (by kernel_rfl) (by simp) ?_; refine AllReadyH.cons (by (simp only [ga, gb, gc]; rfl)) (fun K hK => ?_) AllReadyH.nil; go_simp; (go_at_call 98; refine (key_d g A m c q5 _ hq5d (by omega)).mono ?_; rintro e w8 ⟨s, rfl, hs, hd8⟩; have hX8 := hX5d.drawn (by omega) hd8.grown; have hR8 := hR5d.drawn (by omega) hd8.grown; have hw8 : Below w.heap.size w w8 := hw5d.grown hd8.grown hw5d.size (fun k hk => by have := Option.some.inj hk; omega); have hO8 := hO5d.kept hd8.grown (fun k hk e => by have := HOG.out k hk; have := Option.some.inj e; omega); have d0 : w8.cell? ⟨w.heap.size, 0, none⟩ = some (.int .i64 0) := (by rw [hR8.cell]; rfl); have d1 : w8.cell? ⟨w.heap.size, 1, none⟩ = some (.slice none 0 0) := (by rw [hR8.cell]; rfl); have f0 := hR8.free 0; have f1 := hR8.free 1); go_wp2_with fail; refine hK.out _ _ ?_ (fun hHeld => ?_); (focus ((try dsimp only); (exact ⟨by rw [hX8.cell]; rfl, by rw [hX8.cell]; rfl⟩))); clear hK K; (try simp only [Act.put, pa, pb, pc]))
    have hXs := (hX8.setOther (a := ⟨w.heap.size, 0, none⟩) (show w3.heap.size ≠ w.heap.size from by omega) (.int .i64 z)).setOther (a := ⟨w.heap.size, 1, none⟩) (show w3.heap.size ≠ w.heap.size from by omega) (.slice b3 l.length c3)
    refine wpAnyH_ready (rs := [3]) (by kernel_rfl) (by simp) (AllReadyH.cons (by (simp only [ga, gb, gc]; rfl)) (fun K hK => ?_) AllReadyH.nil)
    go_simp
    refine hK.out _ _ ?_ (fun hHeld => ?_)
    focus ((try dsimp only); (exact ⟨by rw [hXs.cell]; rfl, by rw [hXs.cell]; rfl⟩))
    clear hK K
    try simp only [Act.put, pa, pb, pc]
    (refine tkW (i := 4) (v := ?_) (by (simp only [ga, gb, gc]; rfl)) (by kernel_rfl) (by (intro _ _ _ h; exact h)) (by rfl) ?_ (by assumption) ?_; rotate_left; (focus ((intro w hSw; (try dsimp only at hSw); go_simp) <;> with_reducible rfl)); (try simp only [Act.put, pa, pb, pc]))
    refine wpAnyH_done (by kernel_rfl) ?_ _
    go_wp2
    refine bodyPost_ret (v := .tuple #[.agg #[.int .i64 z, .slice b3 l.length c3], .string s]) (by simp [results, Try.results50, go_sem, d0, d1]) rfl ⟨z, .slice b3 l.length c3, l, s, rfl, ?_, hf, ⟨by omega, by omega⟩, by omega, Nat.le_trans hs (by decide), ?_⟩
    · have hne : ∀ g, (.slice b3 l.length c3 : Value).ownBlock = some g → g ≠ w.heap.size := fun g hg => by have := HOB.out g hg; omega
      exact (hO8.setCell (a := ⟨w.heap.size, 0, none⟩) hne _).setCell (a := ⟨w.heap.size, 1, none⟩) hne _
    · exact (hw8.setCell (Nat.le_refl _) _).setCell (Nat.le_refl _) _

end Go.Proofs.Ytbhdgalkedegjaa
