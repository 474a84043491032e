/- The whole draws of chapter 2. -/
import Derived.Test.YtbeklnhngjmpiaaGreatDv4
namespace Go.Proofs.YtbeklnhngjmpiaaGreat
open Go.RowKit
set_option linter.unusedVariables false
set_option maxRecDepth 100000

def DrawnV (w : World) (e : Ending) (w' : World) : Prop := ∃ z v l, e = .returned (.agg #[.int .i64 z, v]) ∧ OwnG w' w.heap.size v l ∧ FitVs l ∧ (-5 ≤ z ∧ z ≤ 50) ∧ l.length ≤ 70 ∧ Below w.heap.size w w'
def DrawnVX (w : World) (e : Ending) (w' : World) : Prop := ∃ z v l u lx, e = .returned (.tuple #[.agg #[.int .i64 z, v], u]) ∧ OwnG w' w.heap.size v l ∧ FitVs l ∧ (-5 ≤ z ∧ z ≤ 50) ∧ l.length ≤ 70 ∧ OwnG w' w.heap.size u lx ∧ FitXs lx ∧ lx.length ≤ 8 ∧ Below w.heap.size w w'
theorem RdB.next {w w' : World} {A : Option Addr} {n : Nat} (h : RdB w w.heap.size A n) (hb : Below w.heap.size w w') : RdB w' w'.heap.size A n := fun i hi => by
 obtain ⟨b, o, z, e, hbb, hc, hz⟩ := h i hi
 exact ⟨b, o, z, e, Nat.lt_of_lt_of_le hbb hb.size, (hb.cell (p := ⟨b, o + i, none⟩) hbb).trans hc, hz⟩
set_option maxHeartbeats 2000000 in
theorem drawVersOk (A : Option Addr) (n c : Nat) (w : World) (hc : n ≤ c) (hcm : c ≤ maxLen) (hr : RdB w w.heap.size A n) : Calls Tryz.prog 103 #[.slice A n c] w (DrawnV w) := by
 have hR0 := blkA w #[.int .i64 0, .slice none 0 0] 34
 have hw0 : Below w.heap.size w (w.alloc (.cells #[.int .i64 0, .slice none 0 0] 34)) := below_alloc (Below.refl _ _) _
 go_enter Tryz.func103, Tryz.ntmps103
 go_wp2_with fail
 refine (open_d A n c _ hc hcm (hr.next hw0)).mono ?_
 rintro e w1 ⟨m, rfl, hq1, hb1⟩
 have hg : (w.alloc (.cells #[.int .i64 0, .slice none 0 0] 34)).heap.size = w.heap.size + 1 := World.size_alloc _ _
 rw [hg] at hq1
 have hw1 := below_next hw0 hb1
 have hR1 := hR0.next hb1
 obtain ⟨g, HG, hg1⟩ : ∃ g, Hid (w.heap.size + 1 = g) ∧ w.heap.size < g := ⟨_, Lib.hid rfl, by omega⟩
 rw [HG.out] at hq1
 go_wp2_with fail
 try simp only [World.size_alloc]
 try rw [HG.out]
 refine (some_d g A m c 0 w1 hq1 (by omega)).mono ?_
 rintro e w2 ⟨z2, v2, l2, rfl, hO2, hf2, ⟨hz21, hz22⟩, hl2, hd2⟩
 obtain ⟨q2, h21, h22, hq2⟩ := hd2.rdr
 have hR2 := hR1.drawn (by omega) hd2.grown
 have hw2 : Below w.heap.size w w2 := hw1.grown hd2.grown hw1.size (fun k hk => by have := Option.some.inj hk; omega)
 obtain ⟨A2, c2, rfl, hx1, hx2, hr2⟩ := hO2.read
 clear hx1 hx2
 go_wp2_with fail
 refine (bentV_d g A m c q2 z2 A2 c2 l2 0 w2 hq2 (by omega) hf2 hz21 hz22 (by omega) (by omega) hr2).mono ?_
 rintro e w3 ⟨z, v3, l, rfl, hO3, hf, ⟨hz1, hz2⟩, hl, hd3⟩
 obtain ⟨q3, h31, h32, hq3⟩ := hd3.rdr
 have hR3 := hR2.drawn (by omega) hd3.grown
 have hw3 : Below w.heap.size w w3 := hw2.grown hd3.grown hw2.size (fun k hk => by have := Option.some.inj hk; omega)
 have HGL : Hid (g < w2.heap.size) := hq2.lt
 have HLO : Hid (∀ g, (v3 : Value).ownBlock = some g → w.heap.size + 1 ≤ g) := fun g hg => by have := (hO3.block_lt hg).1; have := hR2.lt; omega
 have HLG : Hid (∀ k, (v3 : Value).ownBlock = some k → g < k) := fun k hk => by have := (hO3.block_lt hk).1; have := HGL.out; omega
 have hs2 := hw2.size
 have hO3l := hO3.low hs2
 clear hO3 hO2 hr2 hq2 hd3 hd2 hq1
 obtain ⟨b3, n3, c3, rfl⟩ := hO3l.slice
 have d0 : w3.cell? ⟨w.heap.size, 0, none⟩ = some (.int .i64 0) := (by rw [hR3.cell]; rfl)
 have d1 : w3.cell? ⟨w.heap.size, 1, none⟩ = some (.slice none 0 0) := (by rw [hR3.cell]; rfl)
 have f0 := hR3.free 0
 have f1 := hR3.free 1
 have HOB : Hid (∀ g, (Value.slice b3 n3 c3).ownBlock = some g → w.heap.size + 1 ≤ g) := HLO.out
 go_wp2
 refine bodyPost_ret (v := .agg #[.int .i64 z, .slice b3 n3 c3]) (by simp [results, Tryz.results103, go_sem, d0, d1]) rfl ⟨z, .slice b3 n3 c3, l, rfl, ?_, hf, ⟨by omega, by omega⟩, by omega, ?_⟩
 ·
  have hne : ∀ g, (.slice b3 n3 c3 : Value).ownBlock = some g → g ≠ w.heap.size := fun g hg => by have := HOB.out g hg; omega
  exact (hO3l.setCell (a := ⟨w.heap.size, 0, none⟩) hne _).setCell (a := ⟨w.heap.size, 1, none⟩) hne _
 ·
  exact (hw3.setCell (Nat.le_refl _) _).setCell (Nat.le_refl _) _

set_option maxHeartbeats 4000000 in
theorem drawVersDo (A : Option Addr) (n c : Nat) (w : World) (hc : n ≤ c) (hcm : c ≤ maxLen) (hr : RdB w w.heap.size A n) : Calls Tryz.prog 45 #[.slice A n c] w (DrawnVX w) := by
 have hR0 := blkA w #[.int .i64 0, .slice none 0 0] 34
 have hw0 : Below w.heap.size w (w.alloc (.cells #[.int .i64 0, .slice none 0 0] 34)) := below_alloc (Below.refl _ _) _
 go_enter Tryz.func45, Tryz.ntmps45
 go_wp2_with fail
 refine (open_d A n c _ hc hcm (hr.next hw0)).mono ?_
 rintro e w1 ⟨m, rfl, hq1, hb1⟩
 have hg : (w.alloc (.cells #[.int .i64 0, .slice none 0 0] 34)).heap.size = w.heap.size + 1 := World.size_alloc _ _
 rw [hg] at hq1
 have hw1 := below_next hw0 hb1
 have hR1 := hR0.next hb1
 obtain ⟨g, HG, hg1⟩ : ∃ g, Hid (w.heap.size + 1 = g) ∧ w.heap.size < g := ⟨_, Lib.hid rfl, by omega⟩
 rw [HG.out] at hq1
 go_wp2_with fail
 try simp only [World.size_alloc]
 try rw [HG.out]
 refine (some_d g A m c 0 w1 hq1 (by omega)).mono ?_
 rintro e w2 ⟨z2, v2, l2, rfl, hO2, hf2, ⟨hz21, hz22⟩, hl2, hd2⟩
 obtain ⟨q2, h21, h22, hq2⟩ := hd2.rdr
 have hR2 := hR1.drawn (by omega) hd2.grown
 have hw2 : Below w.heap.size w w2 := hw1.grown hd2.grown hw1.size (fun k hk => by have := Option.some.inj hk; omega)
 obtain ⟨A2, c2, rfl, hx1, hx2, hr2⟩ := hO2.read
 clear hx1 hx2
 go_wp2_with fail
 refine (bentV_d g A m c q2 z2 A2 c2 l2 0 w2 hq2 (by omega) hf2 hz21 hz22 (by omega) (by omega) hr2).mono ?_
 rintro e w3 ⟨z, v3, l, rfl, hO3, hf, ⟨hz1, hz2⟩, hl, hd3⟩
 obtain ⟨q3, h31, h32, hq3⟩ := hd3.rdr
 have hR3 := hR2.drawn (by omega) hd3.grown
 have hw3 : Below w.heap.size w w3 := hw2.grown hd3.grown hw2.size (fun k hk => by have := Option.some.inj hk; omega)
 have HGL : Hid (g < w2.heap.size) := hq2.lt
 have HLO : Hid (∀ g, (v3 : Value).ownBlock = some g → w.heap.size + 1 ≤ g) := fun g hg => by have := (hO3.block_lt hg).1; have := hR2.lt; omega
 have HLG : Hid (∀ k, (v3 : Value).ownBlock = some k → g < k) := fun k hk => by have := (hO3.block_lt hk).1; have := HGL.out; omega
 have hs2 := hw2.size
 have hO3l := hO3.low hs2
 clear hO3 hO2 hr2 hq2 hd3 hd2 hq1
 obtain ⟨b3, c3, rfl, hy1, hy2, hy3⟩ := hO3l.read
 have hb4 : Below w3.heap.size w3 (w3.alloc (.cells #[.int .i64 z, .slice b3 l.length c3] 34)) := below_alloc (Below.refl _ _) _
 have hX4 := blkA w3 #[.int .i64 z, .slice b3 l.length c3] 34
 have hR4 := hR3.next hb4
 have hw4 := below_next hw3 hb4
 have hq4 := hq3.next hb4
 have hO4 := hO3l.next hb4
 have hs3 := hw3.size
 have hR3l := hR3.lt
 have hgl := hq3.lt
 have HOB : Hid (∀ g, (.slice b3 l.length c3 : Value).ownBlock = some g → w.heap.size + 1 ≤ g) := fun g hg => HLO.out g hg
 have hrl := hO4.rd'.2.2.2
 have HOG : Hid (∀ k, (.slice b3 l.length c3 : Value).ownBlock = some k → g < k) := fun k hk => by have := HLG.out k hk; omega
 have hal := atL_length l z
 have hfa := fitR_at hf z
 obtain ⟨al, HAL⟩ : ∃ al, Hid (atL l z = al) := ⟨_, Lib.hid rfl⟩
 rw [HAL.out] at hal hfa
 go_wp2
 have hX4d : Blk (w3.alloc (.cells #[.int .i64 z, .slice b3 l.length c3] 34)).drew w3.heap.size 34 #[.int .i64 z, .slice b3 l.length c3] := hX4
 have hq4d : Rdr (w3.alloc (.cells #[.int .i64 z, .slice b3 l.length c3] 34)).drew g A m c q3 := hq4.next (Below.refl _ _).drew
 have hR4d : Blk (w3.alloc (.cells #[.int .i64 z, .slice b3 l.length c3] 34)).drew w.heap.size 34 #[.int .i64 0, .slice none 0 0] := hR4
 have hw4d : Below w.heap.size w (w3.alloc (.cells #[.int .i64 z, .slice b3 l.length c3] 34)).drew := hw4.drew
 have hO4d : OwnG (w3.alloc (.cells #[.int .i64 z, .slice b3 l.length c3] 34)).drew w.heap.size (.slice b3 l.length c3) l := hO4
 refine wp_region_held_drew (S := (fun W => W.cell? ⟨w3.heap.size, 0, none⟩ = some (.int .i64 z) ∧ W.cell? ⟨w3.heap.size, 1, none⟩ = some (.slice b3 l.length c3))) (by kernel_rfl) ?_ (fun hHeld => ?_)
 focus ((try dsimp only); (exact ⟨by rw [hX4d.cell]; rfl, by rw [hX4d.cell]; rfl⟩))
 refine tk 0 ?_
 refine tk 1 ?_
 refine tk 2 ?_
 refine tk 3 ?_
 refine tk 4 ?_
 (refine rd1 5 (fun K hK => ?_); go_simp; (go_at_call 59; refine (specAt z b3 c3 l z _ hy1 (by omega) (hO4d.rd'.2.2.2)).mono ?_; rw [HAL.out]; rintro e w5 ⟨v5, rfl, hO5r, hb5⟩; have hX5 := hX4d.next hb5; have hR5 := hR4d.next hb5; have hw5 := below_next hw4d hb5; have hO5 := hO4d.next hb5; have hq5 := hq4d.next hb5; obtain ⟨A5, c5, rfl, hv1, hv2, hv3⟩ := hO5r.read; clear hv1 hv2 hv3); go_wp2_with fail; refine hK.out _ _ ?_ (fun hHeld => ?_); (focus ((try dsimp only); (exact ⟨by rw [hX5.cell]; rfl, by rw [hX5.cell]; rfl⟩))); clear hK K; (try simp only [Act.put, pa, pb, pc]))
 (refine rd1 6 (fun K hK => ?_); go_simp; (go_at_call 96; refine (writes_d g A m c q3 A5 c5 al _ hq5 (by omega) hfa (by omega) _ hq4d.lt hO5r).mono ?_; rintro e w6 ⟨v6, lx, rfl, hO6x, hfx, hlx, hd6⟩; have hX6 := hX5.drawn (by omega) hd6.grown; have hR6 := hR5.drawn (by omega) hd6.grown; have hw6 : Below w.heap.size w w6 := hw5.grown hd6.grown hw5.size (fun k hk => by have := Option.some.inj hk; omega); have hO6 := hO5.kept hd6.grown (fun k hk e => by have := HOG.out k hk; have := Option.some.inj e; omega); have hs5 := hw5.size; have HOX : Hid (∀ k, v6.ownBlock = some k → w.heap.size < k) := (fun k hk => by have := (hO6x.block_lt hk).1; have := hX5.lt; omega); have hO6l := hO6x.low hs5; obtain ⟨b6, n6, c6, rfl⟩ := hO6x.slice; have d0 : w6.cell? ⟨w.heap.size, 0, none⟩ = some (.int .i64 0) := (by rw [hR6.cell]; rfl); have d1 : w6.cell? ⟨w.heap.size, 1, none⟩ = some (.slice none 0 0) := (by rw [hR6.cell]; rfl); have f0 := hR6.free 0; have f1 := hR6.free 1); go_wp2_with fail; refine hK.out _ _ ?_ (fun hHeld => ?_); (focus ((try dsimp only); (exact ⟨by rw [hX6.cell]; rfl, by rw [hX6.cell]; rfl⟩))); clear hK K; (try simp only [Act.put, pa, pb, pc]))
 have hXs := (hX6.setOther (a := ⟨w.heap.size, 0, none⟩) (show w3.heap.size ≠ w.heap.size from by omega) (.int .i64 z)).setOther (a := ⟨w.heap.size, 1, none⟩) (show w3.heap.size ≠ w.heap.size from by omega) (.slice b3 l.length c3)
 refine rd1 7 (fun K hK => ?_)
 go_simp
 refine hK.out _ _ ?_ (fun hHeld => ?_)
 focus ((try dsimp only); (exact ⟨by rw [hXs.cell]; rfl, by rw [hXs.cell]; rfl⟩))
 clear hK K
 try simp only [Act.put, pa, pb, pc]
 refine tk 8 ?_
 refine wpAnyH_done (by kernel_rfl) ?_ _
 go_wp2
 refine bodyPost_ret (v := .tuple #[.agg #[.int .i64 z, .slice b3 l.length c3], .slice b6 n6 c6]) (by simp [results, Tryz.results45, go_sem, d0, d1]) rfl ⟨z, .slice b3 l.length c3, l, .slice b6 n6 c6, lx, rfl, ?_, hf, ⟨by omega, by omega⟩, by omega, ?_, hfx, hlx, ?_⟩
 ·
  have hne : ∀ g, (.slice b3 l.length c3 : Value).ownBlock = some g → g ≠ w.heap.size := fun g hg => by have := HOB.out g hg; omega
  exact (hO6.setCell (a := ⟨w.heap.size, 0, none⟩) hne _).setCell (a := ⟨w.heap.size, 1, none⟩) hne _
 ·
  have hne : ∀ g, (Value.slice b6 n6 c6).ownBlock = some g → g ≠ w.heap.size := fun g hg => by have := HOX.out g hg; omega
  exact (hO6l.setCell (a := ⟨w.heap.size, 0, none⟩) hne _).setCell (a := ⟨w.heap.size, 1, none⟩) hne _
 ·
  exact (hw6.setCell (Nat.le_refl _) _).setCell (Nat.le_refl _) _

end Go.Proofs.YtbeklnhngjmpiaaGreat
