/- The whole draws of chapter 2: two histories. -/
import Derived.Test.YtbhdgalkedegjaaDv5
import Derived.Test.YtbhdgalkedegjaaM2d
namespace Go.Proofs.Ytbhdgalkedegjaa
open Go.RowKit
set_option linter.unusedVariables false
set_option maxRecDepth 100000

theorem do_bounds {z : Int} {l : List V} {ws : List X} (hf : FitVs l) (hx : FitXs ws) (h0 : 0 ≤ z) (h1 : z ≤ 40) (hl : l.length ≤ 60) (hw : ws.length ≤ 8) : (-5 ≤ doZ z l ws ∧ doZ z l ws ≤ 50) ∧ (doL z l ws).length ≤ 70 ∧ FitVs (doL z l ws) := by
  cases hb : doB z l ws
  · rcases do_false hb with ⟨_, e1, e2⟩ | ⟨_, e1, e2⟩ <;> rw [e1, e2]
    · exact ⟨⟨by omega, by omega⟩, by omega, hf⟩
    · exact ⟨⟨by omega, by omega⟩, by simp, fun r hr => by simp at hr⟩
  · obtain ⟨p1, p2, p3, p4, p5⟩ := do_parts hb
    have hd := doAll_length ws l (z + 1)
    refine ⟨by rw [p4]; omega, by rw [p5]; omega, FitVs.doL p1 hf hx⟩
def DrawnVV (w : World) (e : Ending) (w' : World) : Prop := ∃ z v l y u k, e = .returned (.tuple #[.agg #[.int .i64 z, v], .agg #[.int .i64 y, u]]) ∧ OwnG w' w.heap.size v l ∧ FitVs l ∧ (-5 ≤ z ∧ z ≤ 50) ∧ l.length ≤ 70 ∧ OwnG w' w.heap.size u k ∧ FitVs k ∧ (-5 ≤ y ∧ y ≤ 50) ∧ k.length ≤ 70 ∧ Below w.heap.size w w'

set_option maxHeartbeats 8000000 in
theorem drawVersSame (A : Option Addr) (n c : Nat) (w : World) (hc : n ≤ c) (hcm : c ≤ maxLen) (hr : RdB w w.heap.size A n) : Calls Try.prog 55 #[.slice A n c] w (DrawnVV w) := by
  have hR0 : Blk ((w.alloc (.cells #[.int .i64 0, .slice none 0 0] 29)).alloc (.cells #[.int .i64 0, .slice none 0 0] 29)) w.heap.size 29 #[.int .i64 0, .slice none 0 0] := (blkA w #[.int .i64 0, .slice none 0 0] 29).alloc (.cells #[.int .i64 0, .slice none 0 0] 29)
  have hT0 : Blk ((w.alloc (.cells #[.int .i64 0, .slice none 0 0] 29)).alloc (.cells #[.int .i64 0, .slice none 0 0] 29)) (w.heap.size + 1) 29 #[.int .i64 0, .slice none 0 0] := blkAt #[.int .i64 0, .slice none 0 0] 29 (World.size_alloc _ _)
  have hw0 : Below w.heap.size w ((w.alloc (.cells #[.int .i64 0, .slice none 0 0] 29)).alloc (.cells #[.int .i64 0, .slice none 0 0] 29)) := below_alloc (below_alloc (Below.refl _ _) _) _
  go_enter Try.func55, Try.ntmps55
  go_wp2_with fail
  refine (open_d A n c _ hc hcm (hr.next hw0)).mono ?_
  rintro e w1 ⟨m, rfl, hq1, hb1⟩
  have hg : ((w.alloc (.cells #[.int .i64 0, .slice none 0 0] 29)).alloc (.cells #[.int .i64 0, .slice none 0 0] 29)).heap.size = w.heap.size + 1 + 1 := by rw [World.size_alloc, World.size_alloc]
  rw [hg] at hq1
  have hw1 := below_next hw0 hb1
  have hR1 := hR0.next hb1
  have hT1 := hT0.next hb1
  obtain ⟨g, HG, hg1⟩ : ∃ g, Hid (w.heap.size + 1 + 1 = g) ∧ w.heap.size + 1 < g := ⟨_, Lib.hid rfl, by omega⟩
  rw [HG.out] at hq1
  have hgw := hq1.lt
  go_wp2_with fail
  try simp only [World.size_alloc]
  try rw [HG.out]
  refine (some_d g A m c 0 w1 hq1 (by omega)).mono ?_
  rintro e w2 ⟨z, v2, l, rfl, hO2, hf, ⟨hz1, hz2⟩, hl, hd2⟩
  obtain ⟨q2, h21, h22, hq2⟩ := hd2.rdr
  have hR2 := hR1.drawn (by omega) hd2.grown
  have hT2 := hT1.drawn (by omega) hd2.grown
  have hw2 : Below w.heap.size w w2 := hw1.grown hd2.grown hw1.size (fun k hk => by have := Option.some.inj hk; omega)
  have hs1 := hw1.size
  have hs2 := hw2.size
  have hg2 := hq2.lt
  have hR2l := hT2.lt
  obtain ⟨b3, c3, rfl, hy1, hy2, hy3⟩ := hO2.read
  have HOG : Hid (∀ k, (.slice b3 l.length c3 : Value).ownBlock = some k → g < k) := fun k hk => by have := (hO2.block_lt hk).1; omega
  have HOB : Hid (∀ k, (.slice b3 l.length c3 : Value).ownBlock = some k → w.heap.size + 1 < k) := fun k hk => by have := HOG.out k hk; omega
  have hO2l := hO2.low hs1
  clear hO2 hd2 hq1 hy3
  have hb4 : Below w2.heap.size w2 (w2.alloc (.cells #[.int .i64 z, .slice b3 l.length c3] 29)) := below_alloc (Below.refl _ _) _
  have hX4 := blkA w2 #[.int .i64 z, .slice b3 l.length c3] 29
  have hR4 := hR2.next hb4
  have hT4 := hT2.next hb4
  have hw4 := below_next hw2 hb4
  have hq4 := hq2.next hb4
  have hO4 := hO2l.next hb4
  go_wp2_with fail
  refine (pick_z g A m c q2 2 _ hq4 (by omega) (by omega) (by omega)).mono ?_
  rintro e w5 ⟨k5, rfl, hk5, hd5⟩
  obtain ⟨q5, h51, h52, hq5⟩ := hd5.rdr
  have hX5 := hX4.drawn (by omega) hd5.grown; have hR5 := hR4.drawn (by omega) hd5.grown; have hT5 := hT4.drawn (by omega) hd5.grown; have hw5 : Below w.heap.size w w5 := hw4.grown hd5.grown hw4.size (fun k hk => by have := Option.some.inj hk; omega); have hO5 := hO4.kept hd5.grown (fun k hk e => by have := HOG.out k hk; have := Option.some.inj e; omega)
  clear hd5 hq4 hb4
  by_cases hk0 : k5 = 0
  · have hkd : ((k5 : Int) == 0) = true := by simp [hk0]
    have hal := atL_length l z
    have hfa := fitR_at hf z
    obtain ⟨al, HAL⟩ : ∃ al, Hid (atL l z = al) := ⟨_, Lib.hid rfl⟩
    rw [HAL.out] at hal hfa
    go_wp2
    have hX5d := hX5.next (Below.refl _ w5).drew
    have hR5d := hR5.next (Below.refl _ w5).drew
    have hT5d := hT5.next (Below.refl _ w5).drew
    have hq5d : Rdr w5.drew g A m c q5 := hq5.next (Below.refl _ _).drew
    have hw5d : Below w.heap.size w w5.drew := hw5.drew
    have hO5d := hO5.next (Below.refl _ w5).drew
    refine wp_region_held_drew (S := (fun W => W.cell? ⟨w2.heap.size, 0, none⟩ = some (.int .i64 z) ∧ W.cell? ⟨w2.heap.size, 1, none⟩ = some (.slice b3 l.length c3))) (by kernel_rfl) ?_ (fun hHeld => ?_)
    focus ((try dsimp only); (exact ⟨by rw [hX5d.cell]; rfl, by rw [hX5d.cell]; rfl⟩))
    obtain ⟨wd, HWD⟩ : ∃ wd, Hid (w5.drew = wd) := ⟨_, Lib.hid rfl⟩
    rw [HWD.out] at hHeld hX5d hR5d hT5d hO5d hq5d hw5d
    rw [HWD.out]
    (refine tk 0 ?_; try simp only [Act.put, pa, pb, pc])
    (refine tk 1 ?_; try simp only [Act.put, pa, pb, pc])
    (refine tk 2 ?_; try simp only [Act.put, pa, pb, pc])
    (refine tk 3 ?_; try simp only [Act.put, pa, pb, pc])
    (refine tk 4 ?_; try simp only [Act.put, pa, pb, pc])
    refine wpAnyH_ready (rs := [5, 11]) (by kernel_rfl) (by simp) (AllReadyH.cons (by (simp only [ga, gb, gc]; rfl)) (fun K hK => ?_) (AllReadyH.cons (by (simp only [ga, gb, gc]; rfl)) (fun K hK => ?_) AllReadyH.nil))
    · go_simp
      go_at_call 61; refine (specAt z b3 c3 l z _ hy1 (by omega) (hO5d.rd'.2.2.2)).mono ?_; rw [HAL.out]; rintro e w6 ⟨v6, rfl, hO6r, hb6⟩; have hX6 := hX5d.next hb6; have hR6 := hR5d.next hb6; have hT6 := hT5d.next hb6; have hO6 := hO5d.next hb6; have hq6 := hq5d.next hb6; have hw6 := below_next hw5d hb6; obtain ⟨A6, c6, rfl, hv1, hv2, hv3⟩ := hO6r.read; clear hv1 hv2 hv3; have hl6 := hq5d.lt
      go_wp2_with fail
      refine hK.out _ _ ?_ (fun hHeld => ?_)
      focus ((try dsimp only); (exact ⟨by rw [hX6.cell]; rfl, by rw [hX6.cell]; rfl⟩))
      clear hK K
      try simp only [Act.put, pa, pb, pc]
      refine wpAnyH_ready (rs := [6, 11]) (by kernel_rfl) (by simp) (AllReadyH.cons (by (simp only [ga, gb, gc]; rfl)) (fun K hK => ?_) (AllReadyH.cons (by (simp only [ga, gb, gc]; rfl)) (fun K hK => ?_) AllReadyH.nil))
      · go_simp
        go_at_call 93; refine (writes_d g A m c q5 A6 c6 al _ hq6 (by omega) hfa (by omega) _ hl6 hO6r).mono ?_; rintro e w7 ⟨v7, lx, rfl, hO7x, hfx, hlx, hd7⟩; have hX7 := hX6.drawn (by omega) hd7.grown; have hR7 := hR6.drawn (by omega) hd7.grown; have hT7 := hT6.drawn (by omega) hd7.grown; have hw7 : Below w.heap.size w w7 := hw6.grown hd7.grown hw6.size (fun k hk => by have := Option.some.inj hk; omega); have hO7 := hO6.kept hd7.grown (fun k hk e => by have := HOG.out k hk; have := Option.some.inj e; omega); obtain ⟨A7, c7, rfl, hu1, hu2, hu3⟩ := hO7x.read; clear hu1 hu2 hu3; have hbd := do_bounds (z := z) (ws := lx) hf hfx (by omega) (by omega) (by omega) (by omega); obtain ⟨RZ, RL, RB, HRR⟩ : ∃ RZ RL RB, Hid (doZ z l lx = RZ ∧ doL z l lx = RL ∧ doB z l lx = RB) := ⟨_, _, _, Lib.hid ⟨rfl, rfl, rfl⟩⟩; rw [HRR.out.1, HRR.out.2.1] at hbd; obtain ⟨⟨hRZ1, hRZ2⟩, hRLl, hRLf⟩ := hbd
        go_wp2_with fail
        refine hK.out _ _ ?_ (fun hHeld => ?_)
        focus ((try dsimp only); (exact ⟨by rw [hX7.cell]; rfl, by rw [hX7.cell]; rfl⟩))
        clear hK K
        try simp only [Act.put, pa, pb, pc]
        refine wpAnyH_ready (rs := [7, 11]) (by kernel_rfl) (by simp) (AllReadyH.cons (by (simp only [ga, gb, gc]; rfl)) (fun K hK => ?_) (AllReadyH.cons (by (simp only [ga, gb, gc]; rfl)) (fun K hK => ?_) AllReadyH.nil))
        · go_simp
          go_at_call 38; refine (specVersDoO hO7 hO7x hf hfx (by omega)).mono ?_; rw [HRR.out.1, HRR.out.2.1, HRR.out.2.2]; rintro e w8 ⟨v8, rfl, hO8y, hb8⟩; have hX8 := hX7.next hb8; have hR8 := hR7.next hb8; have hT8 := hT7.next hb8; have hO8 := hO7.next hb8; have hw8 := below_next hw7 hb8; have hs7 := hw7.size; have hTl7 := hT7.lt; have hXl7 := hX7.lt; have HYB : Hid (∀ k, v8.ownBlock = some k → w.heap.size + 1 < k) := (fun k hk => by have := (hO8y.block_lt hk).1; omega); have HYX : Hid (∀ k, v8.ownBlock = some k → k < w8.heap.size) := (fun k hk => (hO8y.block_lt hk).2); have hO8l := hO8y.low hs7; obtain ⟨b8, n8, c8, rfl⟩ := hO8l.slice
          go_wp2_with fail
          refine hK.out _ _ ?_ (fun hHeld => ?_)
          focus ((try dsimp only); (exact ⟨by rw [hX8.cell]; rfl, by rw [hX8.cell]; rfl⟩))
          clear hK K
          try simp only [Act.put, pa, pb, pc]
          (refine tk 8 ?_; try simp only [Act.put, pa, pb, pc])
          (refine tk 9 ?_; try simp only [Act.put, pa, pb, pc])
          (refine tk 10 ?_; try simp only [Act.put, pa, pb, pc])
          have hb9 : Below w8.heap.size w8 (w8.alloc (.cells #[.int .i64 0, .slice none 0 0] 29)) := below_alloc (Below.refl _ _) _
          have hY9 := blkA w8 #[.int .i64 0, .slice none 0 0] 29
          have hX9 := hX8.next hb9
          have hX8l := hX8.lt
          have hT8l := hT8.lt
          refine rd1 11 (fun K hK => ?_)
          go_simp
          refine hK.out _ _ ?_ (fun hHeld => ?_)
          focus ((try dsimp only); (exact ⟨by rw [hX9.cell]; rfl, by rw [hX9.cell]; rfl⟩))
          clear hK K
          try simp only [Act.put, pa, pb, pc]
          have d0 : (w8.alloc (.cells #[.int .i64 0, .slice none 0 0] 29)).cell? ⟨w8.heap.size, 0, none⟩ = some (.int .i64 0) := (by rw [hY9.cell]; rfl)
          have d1 : (w8.alloc (.cells #[.int .i64 0, .slice none 0 0] 29)).cell? ⟨w8.heap.size, 1, none⟩ = some (.slice none 0 0) := (by rw [hY9.cell]; rfl)
          have df0 := hY9.free 0
          have df1 := hY9.free 1
          have hb10 : Below w8.heap.size w8 (w8.alloc (.cells #[.int .i64 RZ, .slice b8 n8 c8] 29)) := below_alloc (Below.refl _ _) _
          have hX10 := hX8.next hb10
          have hR10 := hR8.next hb10
          have hT10 := hT8.next hb10
          have hO10 := hO8.next hb10
          have hw10 := below_next hw8 hb10
          have hY10 := blkA w8 #[.int .i64 RZ, .slice b8 n8 c8] 29
          have hP10 := hO8l.next hb10
          refine rd1 12 (fun K hK => ?_)
          go_simp
          refine hK.out _ _ ?_ (fun hHeld => ?_)
          focus ((try dsimp only); (exact ⟨by rw [hX10.cell]; rfl, by rw [hX10.cell]; rfl⟩))
          clear hK K
          try simp only [Act.put, pa, pb, pc]
          clear d0 d1 df0 df1
          obtain ⟨yb, HYb⟩ : ∃ yb, Hid (w8.heap.size = yb) := ⟨_, Lib.hid rfl⟩
          have hyb1 : w.heap.size + 1 < yb := by have := HYb.out; omega
          have hyb2 : w2.heap.size < yb := by have := HYb.out; omega
          (refine tk 13 ?_; try simp only [Act.put, pa, pb, pc])
          refine wpAnyH_done (by kernel_rfl) ?_ _
          obtain ⟨w11, HW11⟩ : ∃ w11, Hid ((w8.alloc (.cells #[.int .i64 RZ, .slice b8 n8 c8] 29)) = w11) := ⟨_, Lib.hid rfl⟩
          rw [HW11.out] at hX10 hR10 hT10 hY10 hw10 hO10 hP10
          try rw [HW11.out]
          rw [HYb.out] at hY10
          try rw [HYb.out]
          have hY10 : Blk w11 yb 29 #[.int .i64 RZ, .slice b8 n8 c8] := hY10
          have qx0 : w11.cell? ⟨w2.heap.size, 0, none⟩ = some (.int .i64 z) := (by rw [hX10.cell]; rfl)
          go_wp2
          clear qx0
          have hX11 := hX10.next (Below.refl _ w11).drew
          have hR11 := hR10.next (Below.refl _ w11).drew
          have hT11 := hT10.next (Below.refl _ w11).drew
          have hY11 := hY10.next (Below.refl _ w11).drew
          have hO11 := hO10.next (Below.refl _ w11).drew
          have hP11 := hP10.next (Below.refl _ w11).drew
          have hw11 := hw10.drew
          refine wp_region_held_drew (S := (fun W => W.cell? ⟨w2.heap.size, 0, none⟩ = some (.int .i64 z) ∧ W.cell? ⟨w2.heap.size, 1, none⟩ = some (.slice b3 l.length c3) ∧ W.cell? ⟨yb, 0, none⟩ = some (.int .i64 RZ) ∧ W.cell? ⟨yb, 1, none⟩ = some (.slice b8 n8 c8))) (by kernel_rfl) ?_ (fun hHeld => ?_)
          focus ((try dsimp only); (exact ⟨by rw [hX11.cell]; rfl, by rw [hX11.cell]; rfl, by rw [hY11.cell]; rfl, by rw [hY11.cell]; rfl⟩))
          obtain ⟨w12, HW12⟩ : ∃ w12, Hid (w11.drew = w12) := ⟨_, Lib.hid rfl⟩
          rw [HW12.out] at hHeld hX11 hR11 hT11 hY11 hO11 hP11 hw11
          rw [HW12.out]
          (refine tk 0 ?_; try simp only [Act.put, pa, pb, pc])
          (refine tk 1 ?_; try simp only [Act.put, pa, pb, pc])
          have d0 : w12.cell? ⟨w.heap.size, 0, none⟩ = some (.int .i64 0) := (by rw [hR11.cell]; rfl)
          have d1 : w12.cell? ⟨w.heap.size, 1, none⟩ = some (.slice none 0 0) := (by rw [hR11.cell]; rfl)
          have df0 := hR11.free 0
          have df1 := hR11.free 1
          have hXs := (hX11.setOther (a := ⟨w.heap.size, 0, none⟩) (show w2.heap.size ≠ w.heap.size from by omega) (.int .i64 z)).setOther (a := ⟨w.heap.size, 1, none⟩) (show w2.heap.size ≠ w.heap.size from by omega) (.slice b3 l.length c3)
          have hTs := (hT11.setOther (a := ⟨w.heap.size, 0, none⟩) (show w.heap.size + 1 ≠ w.heap.size from by omega) (.int .i64 z)).setOther (a := ⟨w.heap.size, 1, none⟩) (show w.heap.size + 1 ≠ w.heap.size from by omega) (.slice b3 l.length c3)
          have hYs := (hY11.setOther (a := ⟨w.heap.size, 0, none⟩) (show yb ≠ w.heap.size from by omega) (.int .i64 z)).setOther (a := ⟨w.heap.size, 1, none⟩) (show yb ≠ w.heap.size from by omega) (.slice b3 l.length c3)
          refine rd1 2 (fun K hK => ?_)
          go_simp
          refine hK.out _ _ ?_ (fun hHeld => ?_)
          focus ((try dsimp only); (exact ⟨by rw [hXs.cell]; rfl, by rw [hXs.cell]; rfl, by rw [hYs.cell]; rfl, by rw [hYs.cell]; rfl⟩))
          clear hK K
          try simp only [Act.put, pa, pb, pc]
          clear d0 d1 df0 df1
          have d0 : ((w12.setCell ⟨w.heap.size, 0, none⟩ (.int .i64 z)).setCell ⟨w.heap.size, 1, none⟩ (.slice b3 l.length c3)).cell? ⟨w.heap.size + 1, 0, none⟩ = some (.int .i64 0) := (by rw [hTs.cell]; rfl)
          have d1 : ((w12.setCell ⟨w.heap.size, 0, none⟩ (.int .i64 z)).setCell ⟨w.heap.size, 1, none⟩ (.slice b3 l.length c3)).cell? ⟨w.heap.size + 1, 1, none⟩ = some (.slice none 0 0) := (by rw [hTs.cell]; rfl)
          have df0 := hTs.free 0
          have df1 := hTs.free 1
          have hXt := (hXs.setOther (a := ⟨w.heap.size + 1, 0, none⟩) (show w2.heap.size ≠ w.heap.size + 1 from by omega) (.int .i64 RZ)).setOther (a := ⟨w.heap.size + 1, 1, none⟩) (show w2.heap.size ≠ w.heap.size + 1 from by omega) (.slice b8 n8 c8)
          have hYt := (hYs.setOther (a := ⟨w.heap.size + 1, 0, none⟩) (show yb ≠ w.heap.size + 1 from by omega) (.int .i64 RZ)).setOther (a := ⟨w.heap.size + 1, 1, none⟩) (show yb ≠ w.heap.size + 1 from by omega) (.slice b8 n8 c8)
          refine rd1 3 (fun K hK => ?_)
          go_simp
          refine hK.out _ _ ?_ (fun hHeld => ?_)
          focus ((try dsimp only); (exact ⟨by rw [hXt.cell]; rfl, by rw [hXt.cell]; rfl, by rw [hYt.cell]; rfl, by rw [hYt.cell]; rfl⟩))
          clear hK K
          try simp only [Act.put, pa, pb, pc]
          clear d0 d1 df0 df1
          refine wpAnyH_done (by kernel_rfl) ?_ _
          have hRz := (((hR11.set_ 0 (.int .i64 z)).set_ 1 (.slice b3 l.length c3)).setOther (a := ⟨w.heap.size + 1, 0, none⟩) (show w.heap.size ≠ w.heap.size + 1 from by omega) (.int .i64 RZ)).setOther (a := ⟨w.heap.size + 1, 1, none⟩) (show w.heap.size ≠ w.heap.size + 1 from by omega) (.slice b8 n8 c8)
          have hTz := (hTs.set_ 0 (.int .i64 RZ)).set_ 1 (.slice b8 n8 c8)
          have r0 : ((((w12.setCell ⟨w.heap.size, 0, none⟩ (.int .i64 z)).setCell ⟨w.heap.size, 1, none⟩ (.slice b3 l.length c3)).setCell ⟨w.heap.size + 1, 0, none⟩ (.int .i64 RZ)).setCell ⟨w.heap.size + 1, 1, none⟩ (.slice b8 n8 c8)).cell? ⟨w.heap.size, 0, none⟩ = some (.int .i64 z) := (by rw [hRz.cell]; rfl)
          have r1 : ((((w12.setCell ⟨w.heap.size, 0, none⟩ (.int .i64 z)).setCell ⟨w.heap.size, 1, none⟩ (.slice b3 l.length c3)).setCell ⟨w.heap.size + 1, 0, none⟩ (.int .i64 RZ)).setCell ⟨w.heap.size + 1, 1, none⟩ (.slice b8 n8 c8)).cell? ⟨w.heap.size, 1, none⟩ = some (.slice b3 l.length c3) := (by rw [hRz.cell]; rfl)
          have t0 : ((((w12.setCell ⟨w.heap.size, 0, none⟩ (.int .i64 z)).setCell ⟨w.heap.size, 1, none⟩ (.slice b3 l.length c3)).setCell ⟨w.heap.size + 1, 0, none⟩ (.int .i64 RZ)).setCell ⟨w.heap.size + 1, 1, none⟩ (.slice b8 n8 c8)).cell? ⟨w.heap.size + 1, 0, none⟩ = some (.int .i64 RZ) := (by rw [hTz.cell]; rfl)
          have t1 : ((((w12.setCell ⟨w.heap.size, 0, none⟩ (.int .i64 z)).setCell ⟨w.heap.size, 1, none⟩ (.slice b3 l.length c3)).setCell ⟨w.heap.size + 1, 0, none⟩ (.int .i64 RZ)).setCell ⟨w.heap.size + 1, 1, none⟩ (.slice b8 n8 c8)).cell? ⟨w.heap.size + 1, 1, none⟩ = some (.slice b8 n8 c8) := (by rw [hTz.cell]; rfl)
          go_wp2
          refine bodyPost_ret (v := .tuple #[.agg #[.int .i64 z, .slice b3 l.length c3], .agg #[.int .i64 RZ, .slice b8 n8 c8]]) (by simp [results, Try.results55, go_sem, r0, r1, t0, t1]) rfl ⟨z, .slice b3 l.length c3, l, RZ, .slice b8 n8 c8, RL, rfl, ?_, hf, ⟨by omega, by omega⟩, by omega, ?_, hRLf, ⟨hRZ1, hRZ2⟩, hRLl, ?_⟩
          · have hne : ∀ k, (.slice b3 l.length c3 : Value).ownBlock = some k → k ≠ w.heap.size := fun k hk => by have := HOB.out k hk; omega
            have hne1 : ∀ k, (.slice b3 l.length c3 : Value).ownBlock = some k → k ≠ w.heap.size + 1 := fun k hk => by have := HOB.out k hk; omega
            exact (((hO11.setCell (a := ⟨w.heap.size, 0, none⟩) hne _).setCell (a := ⟨w.heap.size, 1, none⟩) hne _).setCell (a := ⟨w.heap.size + 1, 0, none⟩) hne1 _).setCell (a := ⟨w.heap.size + 1, 1, none⟩) hne1 _
          · have hne : ∀ k, (.slice b8 n8 c8 : Value).ownBlock = some k → k ≠ w.heap.size := fun k hk => by have := HYB.out k hk; omega
            have hne1 : ∀ k, (.slice b8 n8 c8 : Value).ownBlock = some k → k ≠ w.heap.size + 1 := fun k hk => by have := HYB.out k hk; omega
            exact (((hP11.setCell (a := ⟨w.heap.size, 0, none⟩) hne _).setCell (a := ⟨w.heap.size, 1, none⟩) hne _).setCell (a := ⟨w.heap.size + 1, 0, none⟩) hne1 _).setCell (a := ⟨w.heap.size + 1, 1, none⟩) hne1 _
          · exact (((hw11.setCell (Nat.le_refl _) _).setCell (Nat.le_refl _) _).setCell (Nat.le_succ _) _).setCell (Nat.le_succ _) _
        · have hb9 : Below w7.heap.size w7 (w7.alloc (.cells #[.int .i64 0, .slice none 0 0] 29)) := below_alloc (Below.refl _ _) _
          have hY9 := blkA w7 #[.int .i64 0, .slice none 0 0] 29
          have hTl9 := hT7.lt
          have hXl9 := hX7.lt
          skip
          have HVY0 : Hid (∀ k, (.slice b3 l.length c3 : Value).ownBlock = some k → k ≠ w7.heap.size) := (fun k hk => by have := (hO7.block_lt hk).2; omega)
          go_simp
          have hX9 := hX7.next hb9
          have hR9 := hR7.next hb9
          have hT9 := hT7.next hb9
          have hO9 := hO7.next hb9
          have hw9 := below_next hw7 hb9
          have hO7x := hO7x.next hb9
          refine hK.out _ _ ?_ (fun hHeld => ?_)
          focus ((try dsimp only); (exact ⟨by rw [hX9.cell]; rfl, by rw [hX9.cell]; rfl⟩))
          clear hK K
          try simp only [Act.put, pa, pb, pc]
          obtain ⟨yb, HYb⟩ : ∃ yb, Hid (w7.heap.size = yb) := ⟨_, Lib.hid rfl⟩
          have hyb1 : w.heap.size + 1 < yb := by have := HYb.out; omega
          have hyb2 : w2.heap.size < yb := by have := HYb.out; omega
          have HVY : Hid (∀ k, (.slice b3 l.length c3 : Value).ownBlock = some k → k ≠ yb) := by rw [← HYb.out]; exact HVY0
          rw [HYb.out] at hY9
          try rw [HYb.out]
          obtain ⟨w9, HW9⟩ : ∃ w9, Hid ((w7.alloc (.cells #[.int .i64 0, .slice none 0 0] 29)) = w9) := ⟨_, Lib.hid rfl⟩
          rw [HW9.out] at hHeld hX9 hR9 hT9 hY9 hO9 hw9 hO7x
          rw [HW9.out]
          refine rd1 7 (fun K hK => ?_)
          go_simp
          go_at_call 38; refine (specVersDoO hO9 hO7x hf hfx (by omega)).mono ?_; rw [HRR.out.1, HRR.out.2.1, HRR.out.2.2]; rintro e w8 ⟨v8, rfl, hO8y, hb8⟩; have hX8 := hX9.next hb8; have hR8 := hR9.next hb8; have hT8 := hT9.next hb8; have hY8 := hY9.next hb8; have hO8 := hO9.next hb8; have hw8 := below_next hw9 hb8; have hs7 := hw9.size; have hTl7 := hT9.lt; have hXl7 := hX9.lt; have hYl7 := hY9.lt; have HYB : Hid (∀ k, v8.ownBlock = some k → w.heap.size + 1 < k) := (fun k hk => by have := (hO8y.block_lt hk).1; omega); have HYX : Hid (∀ k, v8.ownBlock = some k → k < w8.heap.size) := (fun k hk => (hO8y.block_lt hk).2); have HYN : Hid (∀ k, v8.ownBlock = some k → k ≠ yb) := (fun k hk => by have := (hO8y.block_lt hk).1; omega); have hO8l := hO8y.low hs7; obtain ⟨b8, n8, c8, rfl⟩ := hO8l.slice
          go_wp2_with fail
          refine hK.out _ _ ?_ (fun hHeld => ?_)
          focus ((try dsimp only); (exact ⟨by rw [hX8.cell]; rfl, by rw [hX8.cell]; rfl⟩))
          clear hK K
          try simp only [Act.put, pa, pb, pc]
          (refine tk 8 ?_; try simp only [Act.put, pa, pb, pc])
          (refine tk 9 ?_; try simp only [Act.put, pa, pb, pc])
          (refine tk 10 ?_; try simp only [Act.put, pa, pb, pc])
          have d0 : w8.cell? ⟨yb, 0, none⟩ = some (.int .i64 0) := (by rw [hY8.cell]; rfl)
          have d1 : w8.cell? ⟨yb, 1, none⟩ = some (.slice none 0 0) := (by rw [hY8.cell]; rfl)
          have df0 := hY8.free 0
          have df1 := hY8.free 1
          have hX10 := (hX8.setOther (a := ⟨yb, 0, none⟩) (show w2.heap.size ≠ yb from by omega) (.int .i64 RZ)).setOther (a := ⟨yb, 1, none⟩) (show w2.heap.size ≠ yb from by omega) (.slice b8 n8 c8)
          have hR10 := (hR8.setOther (a := ⟨yb, 0, none⟩) (show w.heap.size ≠ yb from by omega) (.int .i64 RZ)).setOther (a := ⟨yb, 1, none⟩) (show w.heap.size ≠ yb from by omega) (.slice b8 n8 c8)
          have hT10 := (hT8.setOther (a := ⟨yb, 0, none⟩) (show w.heap.size + 1 ≠ yb from by omega) (.int .i64 RZ)).setOther (a := ⟨yb, 1, none⟩) (show w.heap.size + 1 ≠ yb from by omega) (.slice b8 n8 c8)
          have hY10 := (hY8.set_ 0 (.int .i64 RZ)).set_ 1 (.slice b8 n8 c8)
          have hw10 : Below w.heap.size w ((w8.setCell ⟨yb, 0, none⟩ (.int .i64 RZ)).setCell ⟨yb, 1, none⟩ (.slice b8 n8 c8)) := (hw8.setCell (show w.heap.size ≤ yb from by omega) _).setCell (show w.heap.size ≤ yb from by omega) _
          have hnv : ∀ k, (.slice b3 l.length c3 : Value).ownBlock = some k → k ≠ yb := HVY.out
          have hny : ∀ k, (.slice b8 n8 c8 : Value).ownBlock = some k → k ≠ yb := HYN.out
          have hO10 := (hO8.setCell (a := ⟨yb, 0, none⟩) hnv (.int .i64 RZ)).setCell (a := ⟨yb, 1, none⟩) hnv (.slice b8 n8 c8)
          have hP10 := (hO8l.setCell (a := ⟨yb, 0, none⟩) hny (.int .i64 RZ)).setCell (a := ⟨yb, 1, none⟩) hny (.slice b8 n8 c8)
          clear hnv hny
          refine rd1 12 (fun K hK => ?_)
          go_simp
          refine hK.out _ _ ?_ (fun hHeld => ?_)
          focus ((try dsimp only); (exact ⟨by rw [hX10.cell]; rfl, by rw [hX10.cell]; rfl⟩))
          clear hK K
          try simp only [Act.put, pa, pb, pc]
          clear d0 d1 df0 df1
          (refine tk 13 ?_; try simp only [Act.put, pa, pb, pc])
          refine wpAnyH_done (by kernel_rfl) ?_ _
          obtain ⟨w11, HW11⟩ : ∃ w11, Hid (((w8.setCell ⟨yb, 0, none⟩ (.int .i64 RZ)).setCell ⟨yb, 1, none⟩ (.slice b8 n8 c8)) = w11) := ⟨_, Lib.hid rfl⟩
          rw [HW11.out] at hX10 hR10 hT10 hY10 hw10 hO10 hP10
          try rw [HW11.out]
          have hY10 : Blk w11 yb 29 #[.int .i64 RZ, .slice b8 n8 c8] := hY10
          have qx0 : w11.cell? ⟨w2.heap.size, 0, none⟩ = some (.int .i64 z) := (by rw [hX10.cell]; rfl)
          go_wp2
          clear qx0
          have hX11 := hX10.next (Below.refl _ w11).drew
          have hR11 := hR10.next (Below.refl _ w11).drew
          have hT11 := hT10.next (Below.refl _ w11).drew
          have hY11 := hY10.next (Below.refl _ w11).drew
          have hO11 := hO10.next (Below.refl _ w11).drew
          have hP11 := hP10.next (Below.refl _ w11).drew
          have hw11 := hw10.drew
          refine wp_region_held_drew (S := (fun W => W.cell? ⟨w2.heap.size, 0, none⟩ = some (.int .i64 z) ∧ W.cell? ⟨w2.heap.size, 1, none⟩ = some (.slice b3 l.length c3) ∧ W.cell? ⟨yb, 0, none⟩ = some (.int .i64 RZ) ∧ W.cell? ⟨yb, 1, none⟩ = some (.slice b8 n8 c8))) (by kernel_rfl) ?_ (fun hHeld => ?_)
          focus ((try dsimp only); (exact ⟨by rw [hX11.cell]; rfl, by rw [hX11.cell]; rfl, by rw [hY11.cell]; rfl, by rw [hY11.cell]; rfl⟩))
          obtain ⟨w12, HW12⟩ : ∃ w12, Hid (w11.drew = w12) := ⟨_, Lib.hid rfl⟩
          rw [HW12.out] at hHeld hX11 hR11 hT11 hY11 hO11 hP11 hw11
          rw [HW12.out]
          (refine tk 0 ?_; try simp only [Act.put, pa, pb, pc])
          (refine tk 1 ?_; try simp only [Act.put, pa, pb, pc])
          have d0 : w12.cell? ⟨w.heap.size, 0, none⟩ = some (.int .i64 0) := (by rw [hR11.cell]; rfl)
          have d1 : w12.cell? ⟨w.heap.size, 1, none⟩ = some (.slice none 0 0) := (by rw [hR11.cell]; rfl)
          have df0 := hR11.free 0
          have df1 := hR11.free 1
          have hXs := (hX11.setOther (a := ⟨w.heap.size, 0, none⟩) (show w2.heap.size ≠ w.heap.size from by omega) (.int .i64 z)).setOther (a := ⟨w.heap.size, 1, none⟩) (show w2.heap.size ≠ w.heap.size from by omega) (.slice b3 l.length c3)
          have hTs := (hT11.setOther (a := ⟨w.heap.size, 0, none⟩) (show w.heap.size + 1 ≠ w.heap.size from by omega) (.int .i64 z)).setOther (a := ⟨w.heap.size, 1, none⟩) (show w.heap.size + 1 ≠ w.heap.size from by omega) (.slice b3 l.length c3)
          have hYs := (hY11.setOther (a := ⟨w.heap.size, 0, none⟩) (show yb ≠ w.heap.size from by omega) (.int .i64 z)).setOther (a := ⟨w.heap.size, 1, none⟩) (show yb ≠ w.heap.size from by omega) (.slice b3 l.length c3)
          refine rd1 2 (fun K hK => ?_)
          go_simp
          refine hK.out _ _ ?_ (fun hHeld => ?_)
          focus ((try dsimp only); (exact ⟨by rw [hXs.cell]; rfl, by rw [hXs.cell]; rfl, by rw [hYs.cell]; rfl, by rw [hYs.cell]; rfl⟩))
          clear hK K
          try simp only [Act.put, pa, pb, pc]
          clear d0 d1 df0 df1
          have d0 : ((w12.setCell ⟨w.heap.size, 0, none⟩ (.int .i64 z)).setCell ⟨w.heap.size, 1, none⟩ (.slice b3 l.length c3)).cell? ⟨w.heap.size + 1, 0, none⟩ = some (.int .i64 0) := (by rw [hTs.cell]; rfl)
          have d1 : ((w12.setCell ⟨w.heap.size, 0, none⟩ (.int .i64 z)).setCell ⟨w.heap.size, 1, none⟩ (.slice b3 l.length c3)).cell? ⟨w.heap.size + 1, 1, none⟩ = some (.slice none 0 0) := (by rw [hTs.cell]; rfl)
          have df0 := hTs.free 0
          have df1 := hTs.free 1
          have hXt := (hXs.setOther (a := ⟨w.heap.size + 1, 0, none⟩) (show w2.heap.size ≠ w.heap.size + 1 from by omega) (.int .i64 RZ)).setOther (a := ⟨w.heap.size + 1, 1, none⟩) (show w2.heap.size ≠ w.heap.size + 1 from by omega) (.slice b8 n8 c8)
          have hYt := (hYs.setOther (a := ⟨w.heap.size + 1, 0, none⟩) (show yb ≠ w.heap.size + 1 from by omega) (.int .i64 RZ)).setOther (a := ⟨w.heap.size + 1, 1, none⟩) (show yb ≠ w.heap.size + 1 from by omega) (.slice b8 n8 c8)
          refine rd1 3 (fun K hK => ?_)
          go_simp
          refine hK.out _ _ ?_ (fun hHeld => ?_)
          focus ((try dsimp only); (exact ⟨by rw [hXt.cell]; rfl, by rw [hXt.cell]; rfl, by rw [hYt.cell]; rfl, by rw [hYt.cell]; rfl⟩))
          clear hK K
          try simp only [Act.put, pa, pb, pc]
          clear d0 d1 df0 df1
          refine wpAnyH_done (by kernel_rfl) ?_ _
          have hRz := (((hR11.set_ 0 (.int .i64 z)).set_ 1 (.slice b3 l.length c3)).setOther (a := ⟨w.heap.size + 1, 0, none⟩) (show w.heap.size ≠ w.heap.size + 1 from by omega) (.int .i64 RZ)).setOther (a := ⟨w.heap.size + 1, 1, none⟩) (show w.heap.size ≠ w.heap.size + 1 from by omega) (.slice b8 n8 c8)
          have hTz := (hTs.set_ 0 (.int .i64 RZ)).set_ 1 (.slice b8 n8 c8)
          have r0 : ((((w12.setCell ⟨w.heap.size, 0, none⟩ (.int .i64 z)).setCell ⟨w.heap.size, 1, none⟩ (.slice b3 l.length c3)).setCell ⟨w.heap.size + 1, 0, none⟩ (.int .i64 RZ)).setCell ⟨w.heap.size + 1, 1, none⟩ (.slice b8 n8 c8)).cell? ⟨w.heap.size, 0, none⟩ = some (.int .i64 z) := (by rw [hRz.cell]; rfl)
          have r1 : ((((w12.setCell ⟨w.heap.size, 0, none⟩ (.int .i64 z)).setCell ⟨w.heap.size, 1, none⟩ (.slice b3 l.length c3)).setCell ⟨w.heap.size + 1, 0, none⟩ (.int .i64 RZ)).setCell ⟨w.heap.size + 1, 1, none⟩ (.slice b8 n8 c8)).cell? ⟨w.heap.size, 1, none⟩ = some (.slice b3 l.length c3) := (by rw [hRz.cell]; rfl)
          have t0 : ((((w12.setCell ⟨w.heap.size, 0, none⟩ (.int .i64 z)).setCell ⟨w.heap.size, 1, none⟩ (.slice b3 l.length c3)).setCell ⟨w.heap.size + 1, 0, none⟩ (.int .i64 RZ)).setCell ⟨w.heap.size + 1, 1, none⟩ (.slice b8 n8 c8)).cell? ⟨w.heap.size + 1, 0, none⟩ = some (.int .i64 RZ) := (by rw [hTz.cell]; rfl)
          have t1 : ((((w12.setCell ⟨w.heap.size, 0, none⟩ (.int .i64 z)).setCell ⟨w.heap.size, 1, none⟩ (.slice b3 l.length c3)).setCell ⟨w.heap.size + 1, 0, none⟩ (.int .i64 RZ)).setCell ⟨w.heap.size + 1, 1, none⟩ (.slice b8 n8 c8)).cell? ⟨w.heap.size + 1, 1, none⟩ = some (.slice b8 n8 c8) := (by rw [hTz.cell]; rfl)
          go_wp2
          refine bodyPost_ret (v := .tuple #[.agg #[.int .i64 z, .slice b3 l.length c3], .agg #[.int .i64 RZ, .slice b8 n8 c8]]) (by simp [results, Try.results55, go_sem, r0, r1, t0, t1]) rfl ⟨z, .slice b3 l.length c3, l, RZ, .slice b8 n8 c8, RL, rfl, ?_, hf, ⟨by omega, by omega⟩, by omega, ?_, hRLf, ⟨hRZ1, hRZ2⟩, hRLl, ?_⟩
          · have hne : ∀ k, (.slice b3 l.length c3 : Value).ownBlock = some k → k ≠ w.heap.size := fun k hk => by have := HOB.out k hk; omega
            have hne1 : ∀ k, (.slice b3 l.length c3 : Value).ownBlock = some k → k ≠ w.heap.size + 1 := fun k hk => by have := HOB.out k hk; omega
            exact (((hO11.setCell (a := ⟨w.heap.size, 0, none⟩) hne _).setCell (a := ⟨w.heap.size, 1, none⟩) hne _).setCell (a := ⟨w.heap.size + 1, 0, none⟩) hne1 _).setCell (a := ⟨w.heap.size + 1, 1, none⟩) hne1 _
          · have hne : ∀ k, (.slice b8 n8 c8 : Value).ownBlock = some k → k ≠ w.heap.size := fun k hk => by have := HYB.out k hk; omega
            have hne1 : ∀ k, (.slice b8 n8 c8 : Value).ownBlock = some k → k ≠ w.heap.size + 1 := fun k hk => by have := HYB.out k hk; omega
            exact (((hP11.setCell (a := ⟨w.heap.size, 0, none⟩) hne _).setCell (a := ⟨w.heap.size, 1, none⟩) hne _).setCell (a := ⟨w.heap.size + 1, 0, none⟩) hne1 _).setCell (a := ⟨w.heap.size + 1, 1, none⟩) hne1 _
          · exact (((hw11.setCell (Nat.le_refl _) _).setCell (Nat.le_refl _) _).setCell (Nat.le_succ _) _).setCell (Nat.le_succ _) _
      · have hb9 : Below w6.heap.size w6 (w6.alloc (.cells #[.int .i64 0, .slice none 0 0] 29)) := below_alloc (Below.refl _ _) _
        have hY9 := blkA w6 #[.int .i64 0, .slice none 0 0] 29
        have hTl9 := hT6.lt
        have hXl9 := hX6.lt
        have hgl9 := hq6.lt
        have HVY0 : Hid (∀ k, (.slice b3 l.length c3 : Value).ownBlock = some k → k ≠ w6.heap.size) := (fun k hk => by have := (hO6.block_lt hk).2; omega)
        go_simp
        have hX9 := hX6.next hb9
        have hR9 := hR6.next hb9
        have hT9 := hT6.next hb9
        have hO9 := hO6.next hb9
        have hq9 := hq6.next hb9
        have hw9 := below_next hw6 hb9
        have hO6r := hO6r.next hb9
        refine hK.out _ _ ?_ (fun hHeld => ?_)
        focus ((try dsimp only); (exact ⟨by rw [hX9.cell]; rfl, by rw [hX9.cell]; rfl⟩))
        clear hK K
        try simp only [Act.put, pa, pb, pc]
        obtain ⟨yb, HYb⟩ : ∃ yb, Hid (w6.heap.size = yb) := ⟨_, Lib.hid rfl⟩
        have hyb1 : w.heap.size + 1 < yb := by have := HYb.out; omega
        have hyb2 : w2.heap.size < yb := by have := HYb.out; omega
        have hyb3 : g < yb := by have := HYb.out; omega
        have HVY : Hid (∀ k, (.slice b3 l.length c3 : Value).ownBlock = some k → k ≠ yb) := by rw [← HYb.out]; exact HVY0
        rw [HYb.out] at hY9
        try rw [HYb.out]
        obtain ⟨w9, HW9⟩ : ∃ w9, Hid ((w6.alloc (.cells #[.int .i64 0, .slice none 0 0] 29)) = w9) := ⟨_, Lib.hid rfl⟩
        rw [HW9.out] at hHeld hX9 hR9 hT9 hY9 hO9 hw9 hq9 hO6r
        rw [HW9.out]
        refine rd1 6 (fun K hK => ?_)
        go_simp
        go_at_call 93; refine (writes_d g A m c q5 A6 c6 al _ hq9 (by omega) hfa (by omega) _ hl6 hO6r).mono ?_; rintro e w7 ⟨v7, lx, rfl, hO7x, hfx, hlx, hd7⟩; have hX7 := hX9.drawn (by omega) hd7.grown; have hR7 := hR9.drawn (by omega) hd7.grown; have hT7 := hT9.drawn (by omega) hd7.grown; have hY7 := hY9.drawn (by omega) hd7.grown; have hw7 : Below w.heap.size w w7 := hw9.grown hd7.grown hw9.size (fun k hk => by have := Option.some.inj hk; omega); have hO7 := hO9.kept hd7.grown (fun k hk e => by have := HOG.out k hk; have := Option.some.inj e; omega); obtain ⟨A7, c7, rfl, hu1, hu2, hu3⟩ := hO7x.read; clear hu1 hu2 hu3; have hbd := do_bounds (z := z) (ws := lx) hf hfx (by omega) (by omega) (by omega) (by omega); obtain ⟨RZ, RL, RB, HRR⟩ : ∃ RZ RL RB, Hid (doZ z l lx = RZ ∧ doL z l lx = RL ∧ doB z l lx = RB) := ⟨_, _, _, Lib.hid ⟨rfl, rfl, rfl⟩⟩; rw [HRR.out.1, HRR.out.2.1] at hbd; obtain ⟨⟨hRZ1, hRZ2⟩, hRLl, hRLf⟩ := hbd
        go_wp2_with fail
        refine hK.out _ _ ?_ (fun hHeld => ?_)
        focus ((try dsimp only); (exact ⟨by rw [hX7.cell]; rfl, by rw [hX7.cell]; rfl⟩))
        clear hK K
        try simp only [Act.put, pa, pb, pc]
        refine rd1 7 (fun K hK => ?_)
        go_simp
        go_at_call 38; refine (specVersDoO hO7 hO7x hf hfx (by omega)).mono ?_; rw [HRR.out.1, HRR.out.2.1, HRR.out.2.2]; rintro e w8 ⟨v8, rfl, hO8y, hb8⟩; have hX8 := hX7.next hb8; have hR8 := hR7.next hb8; have hT8 := hT7.next hb8; have hY8 := hY7.next hb8; have hO8 := hO7.next hb8; have hw8 := below_next hw7 hb8; have hs7 := hw7.size; have hTl7 := hT7.lt; have hXl7 := hX7.lt; have hYl7 := hY7.lt; have HYB : Hid (∀ k, v8.ownBlock = some k → w.heap.size + 1 < k) := (fun k hk => by have := (hO8y.block_lt hk).1; omega); have HYX : Hid (∀ k, v8.ownBlock = some k → k < w8.heap.size) := (fun k hk => (hO8y.block_lt hk).2); have HYN : Hid (∀ k, v8.ownBlock = some k → k ≠ yb) := (fun k hk => by have := (hO8y.block_lt hk).1; omega); have hO8l := hO8y.low hs7; obtain ⟨b8, n8, c8, rfl⟩ := hO8l.slice
        go_wp2_with fail
        refine hK.out _ _ ?_ (fun hHeld => ?_)
        focus ((try dsimp only); (exact ⟨by rw [hX8.cell]; rfl, by rw [hX8.cell]; rfl⟩))
        clear hK K
        try simp only [Act.put, pa, pb, pc]
        (refine tk 8 ?_; try simp only [Act.put, pa, pb, pc])
        (refine tk 9 ?_; try simp only [Act.put, pa, pb, pc])
        (refine tk 10 ?_; try simp only [Act.put, pa, pb, pc])
        have d0 : w8.cell? ⟨yb, 0, none⟩ = some (.int .i64 0) := (by rw [hY8.cell]; rfl)
        have d1 : w8.cell? ⟨yb, 1, none⟩ = some (.slice none 0 0) := (by rw [hY8.cell]; rfl)
        have df0 := hY8.free 0
        have df1 := hY8.free 1
        have hX10 := (hX8.setOther (a := ⟨yb, 0, none⟩) (show w2.heap.size ≠ yb from by omega) (.int .i64 RZ)).setOther (a := ⟨yb, 1, none⟩) (show w2.heap.size ≠ yb from by omega) (.slice b8 n8 c8)
        have hR10 := (hR8.setOther (a := ⟨yb, 0, none⟩) (show w.heap.size ≠ yb from by omega) (.int .i64 RZ)).setOther (a := ⟨yb, 1, none⟩) (show w.heap.size ≠ yb from by omega) (.slice b8 n8 c8)
        have hT10 := (hT8.setOther (a := ⟨yb, 0, none⟩) (show w.heap.size + 1 ≠ yb from by omega) (.int .i64 RZ)).setOther (a := ⟨yb, 1, none⟩) (show w.heap.size + 1 ≠ yb from by omega) (.slice b8 n8 c8)
        have hY10 := (hY8.set_ 0 (.int .i64 RZ)).set_ 1 (.slice b8 n8 c8)
        have hw10 : Below w.heap.size w ((w8.setCell ⟨yb, 0, none⟩ (.int .i64 RZ)).setCell ⟨yb, 1, none⟩ (.slice b8 n8 c8)) := (hw8.setCell (show w.heap.size ≤ yb from by omega) _).setCell (show w.heap.size ≤ yb from by omega) _
        have hnv : ∀ k, (.slice b3 l.length c3 : Value).ownBlock = some k → k ≠ yb := HVY.out
        have hny : ∀ k, (.slice b8 n8 c8 : Value).ownBlock = some k → k ≠ yb := HYN.out
        have hO10 := (hO8.setCell (a := ⟨yb, 0, none⟩) hnv (.int .i64 RZ)).setCell (a := ⟨yb, 1, none⟩) hnv (.slice b8 n8 c8)
        have hP10 := (hO8l.setCell (a := ⟨yb, 0, none⟩) hny (.int .i64 RZ)).setCell (a := ⟨yb, 1, none⟩) hny (.slice b8 n8 c8)
        clear hnv hny
        refine rd1 12 (fun K hK => ?_)
        go_simp
        refine hK.out _ _ ?_ (fun hHeld => ?_)
        focus ((try dsimp only); (exact ⟨by rw [hX10.cell]; rfl, by rw [hX10.cell]; rfl⟩))
        clear hK K
        try simp only [Act.put, pa, pb, pc]
        clear d0 d1 df0 df1
        (refine tk 13 ?_; try simp only [Act.put, pa, pb, pc])
        refine wpAnyH_done (by kernel_rfl) ?_ _
        obtain ⟨w11, HW11⟩ : ∃ w11, Hid (((w8.setCell ⟨yb, 0, none⟩ (.int .i64 RZ)).setCell ⟨yb, 1, none⟩ (.slice b8 n8 c8)) = w11) := ⟨_, Lib.hid rfl⟩
        rw [HW11.out] at hX10 hR10 hT10 hY10 hw10 hO10 hP10
        try rw [HW11.out]
        have hY10 : Blk w11 yb 29 #[.int .i64 RZ, .slice b8 n8 c8] := hY10
        have qx0 : w11.cell? ⟨w2.heap.size, 0, none⟩ = some (.int .i64 z) := (by rw [hX10.cell]; rfl)
        go_wp2
        clear qx0
        have hX11 := hX10.next (Below.refl _ w11).drew
        have hR11 := hR10.next (Below.refl _ w11).drew
        have hT11 := hT10.next (Below.refl _ w11).drew
        have hY11 := hY10.next (Below.refl _ w11).drew
        have hO11 := hO10.next (Below.refl _ w11).drew
        have hP11 := hP10.next (Below.refl _ w11).drew
        have hw11 := hw10.drew
        refine wp_region_held_drew (S := (fun W => W.cell? ⟨w2.heap.size, 0, none⟩ = some (.int .i64 z) ∧ W.cell? ⟨w2.heap.size, 1, none⟩ = some (.slice b3 l.length c3) ∧ W.cell? ⟨yb, 0, none⟩ = some (.int .i64 RZ) ∧ W.cell? ⟨yb, 1, none⟩ = some (.slice b8 n8 c8))) (by kernel_rfl) ?_ (fun hHeld => ?_)
        focus ((try dsimp only); (exact ⟨by rw [hX11.cell]; rfl, by rw [hX11.cell]; rfl, by rw [hY11.cell]; rfl, by rw [hY11.cell]; rfl⟩))
        obtain ⟨w12, HW12⟩ : ∃ w12, Hid (w11.drew = w12) := ⟨_, Lib.hid rfl⟩
        rw [HW12.out] at hHeld hX11 hR11 hT11 hY11 hO11 hP11 hw11
        rw [HW12.out]
        (refine tk 0 ?_; try simp only [Act.put, pa, pb, pc])
        (refine tk 1 ?_; try simp only [Act.put, pa, pb, pc])
        have d0 : w12.cell? ⟨w.heap.size, 0, none⟩ = some (.int .i64 0) := (by rw [hR11.cell]; rfl)
        have d1 : w12.cell? ⟨w.heap.size, 1, none⟩ = some (.slice none 0 0) := (by rw [hR11.cell]; rfl)
        have df0 := hR11.free 0
        have df1 := hR11.free 1
        have hXs := (hX11.setOther (a := ⟨w.heap.size, 0, none⟩) (show w2.heap.size ≠ w.heap.size from by omega) (.int .i64 z)).setOther (a := ⟨w.heap.size, 1, none⟩) (show w2.heap.size ≠ w.heap.size from by omega) (.slice b3 l.length c3)
        have hTs := (hT11.setOther (a := ⟨w.heap.size, 0, none⟩) (show w.heap.size + 1 ≠ w.heap.size from by omega) (.int .i64 z)).setOther (a := ⟨w.heap.size, 1, none⟩) (show w.heap.size + 1 ≠ w.heap.size from by omega) (.slice b3 l.length c3)
        have hYs := (hY11.setOther (a := ⟨w.heap.size, 0, none⟩) (show yb ≠ w.heap.size from by omega) (.int .i64 z)).setOther (a := ⟨w.heap.size, 1, none⟩) (show yb ≠ w.heap.size from by omega) (.slice b3 l.length c3)
        refine rd1 2 (fun K hK => ?_)
        go_simp
        refine hK.out _ _ ?_ (fun hHeld => ?_)
        focus ((try dsimp only); (exact ⟨by rw [hXs.cell]; rfl, by rw [hXs.cell]; rfl, by rw [hYs.cell]; rfl, by rw [hYs.cell]; rfl⟩))
        clear hK K
        try simp only [Act.put, pa, pb, pc]
        clear d0 d1 df0 df1
        have d0 : ((w12.setCell ⟨w.heap.size, 0, none⟩ (.int .i64 z)).setCell ⟨w.heap.size, 1, none⟩ (.slice b3 l.length c3)).cell? ⟨w.heap.size + 1, 0, none⟩ = some (.int .i64 0) := (by rw [hTs.cell]; rfl)
        have d1 : ((w12.setCell ⟨w.heap.size, 0, none⟩ (.int .i64 z)).setCell ⟨w.heap.size, 1, none⟩ (.slice b3 l.length c3)).cell? ⟨w.heap.size + 1, 1, none⟩ = some (.slice none 0 0) := (by rw [hTs.cell]; rfl)
        have df0 := hTs.free 0
        have df1 := hTs.free 1
        have hXt := (hXs.setOther (a := ⟨w.heap.size + 1, 0, none⟩) (show w2.heap.size ≠ w.heap.size + 1 from by omega) (.int .i64 RZ)).setOther (a := ⟨w.heap.size + 1, 1, none⟩) (show w2.heap.size ≠ w.heap.size + 1 from by omega) (.slice b8 n8 c8)
        have hYt := (hYs.setOther (a := ⟨w.heap.size + 1, 0, none⟩) (show yb ≠ w.heap.size + 1 from by omega) (.int .i64 RZ)).setOther (a := ⟨w.heap.size + 1, 1, none⟩) (show yb ≠ w.heap.size + 1 from by omega) (.slice b8 n8 c8)
        refine rd1 3 (fun K hK => ?_)
        go_simp
        refine hK.out _ _ ?_ (fun hHeld => ?_)
        focus ((try dsimp only); (exact ⟨by rw [hXt.cell]; rfl, by rw [hXt.cell]; rfl, by rw [hYt.cell]; rfl, by rw [hYt.cell]; rfl⟩))
        clear hK K
        try simp only [Act.put, pa, pb, pc]
        clear d0 d1 df0 df1
        refine wpAnyH_done (by kernel_rfl) ?_ _
        have hRz := (((hR11.set_ 0 (.int .i64 z)).set_ 1 (.slice b3 l.length c3)).setOther (a := ⟨w.heap.size + 1, 0, none⟩) (show w.heap.size ≠ w.heap.size + 1 from by omega) (.int .i64 RZ)).setOther (a := ⟨w.heap.size + 1, 1, none⟩) (show w.heap.size ≠ w.heap.size + 1 from by omega) (.slice b8 n8 c8)
        have hTz := (hTs.set_ 0 (.int .i64 RZ)).set_ 1 (.slice b8 n8 c8)
        have r0 : ((((w12.setCell ⟨w.heap.size, 0, none⟩ (.int .i64 z)).setCell ⟨w.heap.size, 1, none⟩ (.slice b3 l.length c3)).setCell ⟨w.heap.size + 1, 0, none⟩ (.int .i64 RZ)).setCell ⟨w.heap.size + 1, 1, none⟩ (.slice b8 n8 c8)).cell? ⟨w.heap.size, 0, none⟩ = some (.int .i64 z) := (by rw [hRz.cell]; rfl)
        have r1 : ((((w12.setCell ⟨w.heap.size, 0, none⟩ (.int .i64 z)).setCell ⟨w.heap.size, 1, none⟩ (.slice b3 l.length c3)).setCell ⟨w.heap.size + 1, 0, none⟩ (.int .i64 RZ)).setCell ⟨w.heap.size + 1, 1, none⟩ (.slice b8 n8 c8)).cell? ⟨w.heap.size, 1, none⟩ = some (.slice b3 l.length c3) := (by rw [hRz.cell]; rfl)
        have t0 : ((((w12.setCell ⟨w.heap.size, 0, none⟩ (.int .i64 z)).setCell ⟨w.heap.size, 1, none⟩ (.slice b3 l.length c3)).setCell ⟨w.heap.size + 1, 0, none⟩ (.int .i64 RZ)).setCell ⟨w.heap.size + 1, 1, none⟩ (.slice b8 n8 c8)).cell? ⟨w.heap.size + 1, 0, none⟩ = some (.int .i64 RZ) := (by rw [hTz.cell]; rfl)
        have t1 : ((((w12.setCell ⟨w.heap.size, 0, none⟩ (.int .i64 z)).setCell ⟨w.heap.size, 1, none⟩ (.slice b3 l.length c3)).setCell ⟨w.heap.size + 1, 0, none⟩ (.int .i64 RZ)).setCell ⟨w.heap.size + 1, 1, none⟩ (.slice b8 n8 c8)).cell? ⟨w.heap.size + 1, 1, none⟩ = some (.slice b8 n8 c8) := (by rw [hTz.cell]; rfl)
        go_wp2
        refine bodyPost_ret (v := .tuple #[.agg #[.int .i64 z, .slice b3 l.length c3], .agg #[.int .i64 RZ, .slice b8 n8 c8]]) (by simp [results, Try.results55, go_sem, r0, r1, t0, t1]) rfl ⟨z, .slice b3 l.length c3, l, RZ, .slice b8 n8 c8, RL, rfl, ?_, hf, ⟨by omega, by omega⟩, by omega, ?_, hRLf, ⟨hRZ1, hRZ2⟩, hRLl, ?_⟩
        · have hne : ∀ k, (.slice b3 l.length c3 : Value).ownBlock = some k → k ≠ w.heap.size := fun k hk => by have := HOB.out k hk; omega
          have hne1 : ∀ k, (.slice b3 l.length c3 : Value).ownBlock = some k → k ≠ w.heap.size + 1 := fun k hk => by have := HOB.out k hk; omega
          exact (((hO11.setCell (a := ⟨w.heap.size, 0, none⟩) hne _).setCell (a := ⟨w.heap.size, 1, none⟩) hne _).setCell (a := ⟨w.heap.size + 1, 0, none⟩) hne1 _).setCell (a := ⟨w.heap.size + 1, 1, none⟩) hne1 _
        · have hne : ∀ k, (.slice b8 n8 c8 : Value).ownBlock = some k → k ≠ w.heap.size := fun k hk => by have := HYB.out k hk; omega
          have hne1 : ∀ k, (.slice b8 n8 c8 : Value).ownBlock = some k → k ≠ w.heap.size + 1 := fun k hk => by have := HYB.out k hk; omega
          exact (((hP11.setCell (a := ⟨w.heap.size, 0, none⟩) hne _).setCell (a := ⟨w.heap.size, 1, none⟩) hne _).setCell (a := ⟨w.heap.size + 1, 0, none⟩) hne1 _).setCell (a := ⟨w.heap.size + 1, 1, none⟩) hne1 _
        · exact (((hw11.setCell (Nat.le_refl _) _).setCell (Nat.le_refl _) _).setCell (Nat.le_succ _) _).setCell (Nat.le_succ _) _
    · have hb9 : Below wd.heap.size wd (wd.alloc (.cells #[.int .i64 0, .slice none 0 0] 29)) := below_alloc (Below.refl _ _) _
      have hY9 := blkA wd #[.int .i64 0, .slice none 0 0] 29
      have hTl9 := hT5d.lt
      have hXl9 := hX5d.lt
      have hgl9 := hq5d.lt
      have HVY0 : Hid (∀ k, (.slice b3 l.length c3 : Value).ownBlock = some k → k ≠ wd.heap.size) := (fun k hk => by have := (hO5d.block_lt hk).2; omega)
      go_simp
      have hX9 := hX5d.next hb9
      have hR9 := hR5d.next hb9
      have hT9 := hT5d.next hb9
      have hO9 := hO5d.next hb9
      have hq9 := hq5d.next hb9
      have hw9 := below_next hw5d hb9
      refine hK.out _ _ ?_ (fun hHeld => ?_)
      focus ((try dsimp only); (exact ⟨by rw [hX9.cell]; rfl, by rw [hX9.cell]; rfl⟩))
      clear hK K
      try simp only [Act.put, pa, pb, pc]
      obtain ⟨yb, HYb⟩ : ∃ yb, Hid (wd.heap.size = yb) := ⟨_, Lib.hid rfl⟩
      have hyb1 : w.heap.size + 1 < yb := by have := HYb.out; omega
      have hyb2 : w2.heap.size < yb := by have := HYb.out; omega
      have hyb3 : g < yb := by have := HYb.out; omega
      have HVY : Hid (∀ k, (.slice b3 l.length c3 : Value).ownBlock = some k → k ≠ yb) := by rw [← HYb.out]; exact HVY0
      rw [HYb.out] at hY9
      try rw [HYb.out]
      obtain ⟨w9, HW9⟩ : ∃ w9, Hid ((wd.alloc (.cells #[.int .i64 0, .slice none 0 0] 29)) = w9) := ⟨_, Lib.hid rfl⟩
      rw [HW9.out] at hHeld hX9 hR9 hT9 hY9 hO9 hw9 hq9
      rw [HW9.out]
      refine rd1 5 (fun K hK => ?_)
      go_simp
      go_at_call 61; refine (specAt z b3 c3 l z _ hy1 (by omega) (hO9.rd'.2.2.2)).mono ?_; rw [HAL.out]; rintro e w6 ⟨v6, rfl, hO6r, hb6⟩; have hX6 := hX9.next hb6; have hR6 := hR9.next hb6; have hT6 := hT9.next hb6; have hY6 := hY9.next hb6; have hO6 := hO9.next hb6; have hq6 := hq9.next hb6; have hw6 := below_next hw9 hb6; obtain ⟨A6, c6, rfl, hv1, hv2, hv3⟩ := hO6r.read; clear hv1 hv2 hv3; have hl6 := hq9.lt
      go_wp2_with fail
      refine hK.out _ _ ?_ (fun hHeld => ?_)
      focus ((try dsimp only); (exact ⟨by rw [hX6.cell]; rfl, by rw [hX6.cell]; rfl⟩))
      clear hK K
      try simp only [Act.put, pa, pb, pc]
      refine rd1 6 (fun K hK => ?_)
      go_simp
      go_at_call 93; refine (writes_d g A m c q5 A6 c6 al _ hq6 (by omega) hfa (by omega) _ hl6 hO6r).mono ?_; rintro e w7 ⟨v7, lx, rfl, hO7x, hfx, hlx, hd7⟩; have hX7 := hX6.drawn (by omega) hd7.grown; have hR7 := hR6.drawn (by omega) hd7.grown; have hT7 := hT6.drawn (by omega) hd7.grown; have hY7 := hY6.drawn (by omega) hd7.grown; have hw7 : Below w.heap.size w w7 := hw6.grown hd7.grown hw6.size (fun k hk => by have := Option.some.inj hk; omega); have hO7 := hO6.kept hd7.grown (fun k hk e => by have := HOG.out k hk; have := Option.some.inj e; omega); obtain ⟨A7, c7, rfl, hu1, hu2, hu3⟩ := hO7x.read; clear hu1 hu2 hu3; have hbd := do_bounds (z := z) (ws := lx) hf hfx (by omega) (by omega) (by omega) (by omega); obtain ⟨RZ, RL, RB, HRR⟩ : ∃ RZ RL RB, Hid (doZ z l lx = RZ ∧ doL z l lx = RL ∧ doB z l lx = RB) := ⟨_, _, _, Lib.hid ⟨rfl, rfl, rfl⟩⟩; rw [HRR.out.1, HRR.out.2.1] at hbd; obtain ⟨⟨hRZ1, hRZ2⟩, hRLl, hRLf⟩ := hbd
      go_wp2_with fail
      refine hK.out _ _ ?_ (fun hHeld => ?_)
      focus ((try dsimp only); (exact ⟨by rw [hX7.cell]; rfl, by rw [hX7.cell]; rfl⟩))
      clear hK K
      try simp only [Act.put, pa, pb, pc]
      refine rd1 7 (fun K hK => ?_)
      go_simp
      go_at_call 38; refine (specVersDoO hO7 hO7x hf hfx (by omega)).mono ?_; rw [HRR.out.1, HRR.out.2.1, HRR.out.2.2]; rintro e w8 ⟨v8, rfl, hO8y, hb8⟩; have hX8 := hX7.next hb8; have hR8 := hR7.next hb8; have hT8 := hT7.next hb8; have hY8 := hY7.next hb8; have hO8 := hO7.next hb8; have hw8 := below_next hw7 hb8; have hs7 := hw7.size; have hTl7 := hT7.lt; have hXl7 := hX7.lt; have hYl7 := hY7.lt; have HYB : Hid (∀ k, v8.ownBlock = some k → w.heap.size + 1 < k) := (fun k hk => by have := (hO8y.block_lt hk).1; omega); have HYX : Hid (∀ k, v8.ownBlock = some k → k < w8.heap.size) := (fun k hk => (hO8y.block_lt hk).2); have HYN : Hid (∀ k, v8.ownBlock = some k → k ≠ yb) := (fun k hk => by have := (hO8y.block_lt hk).1; omega); have hO8l := hO8y.low hs7; obtain ⟨b8, n8, c8, rfl⟩ := hO8l.slice
      go_wp2_with fail
      refine hK.out _ _ ?_ (fun hHeld => ?_)
      focus ((try dsimp only); (exact ⟨by rw [hX8.cell]; rfl, by rw [hX8.cell]; rfl⟩))
      clear hK K
      try simp only [Act.put, pa, pb, pc]
      (refine tk 8 ?_; try simp only [Act.put, pa, pb, pc])
      (refine tk 9 ?_; try simp only [Act.put, pa, pb, pc])
      (refine tk 10 ?_; try simp only [Act.put, pa, pb, pc])
      have d0 : w8.cell? ⟨yb, 0, none⟩ = some (.int .i64 0) := (by rw [hY8.cell]; rfl)
      have d1 : w8.cell? ⟨yb, 1, none⟩ = some (.slice none 0 0) := (by rw [hY8.cell]; rfl)
      have df0 := hY8.free 0
      have df1 := hY8.free 1
      have hX10 := (hX8.setOther (a := ⟨yb, 0, none⟩) (show w2.heap.size ≠ yb from by omega) (.int .i64 RZ)).setOther (a := ⟨yb, 1, none⟩) (show w2.heap.size ≠ yb from by omega) (.slice b8 n8 c8)
      have hR10 := (hR8.setOther (a := ⟨yb, 0, none⟩) (show w.heap.size ≠ yb from by omega) (.int .i64 RZ)).setOther (a := ⟨yb, 1, none⟩) (show w.heap.size ≠ yb from by omega) (.slice b8 n8 c8)
      have hT10 := (hT8.setOther (a := ⟨yb, 0, none⟩) (show w.heap.size + 1 ≠ yb from by omega) (.int .i64 RZ)).setOther (a := ⟨yb, 1, none⟩) (show w.heap.size + 1 ≠ yb from by omega) (.slice b8 n8 c8)
      have hY10 := (hY8.set_ 0 (.int .i64 RZ)).set_ 1 (.slice b8 n8 c8)
      have hw10 : Below w.heap.size w ((w8.setCell ⟨yb, 0, none⟩ (.int .i64 RZ)).setCell ⟨yb, 1, none⟩ (.slice b8 n8 c8)) := (hw8.setCell (show w.heap.size ≤ yb from by omega) _).setCell (show w.heap.size ≤ yb from by omega) _
      have hnv : ∀ k, (.slice b3 l.length c3 : Value).ownBlock = some k → k ≠ yb := HVY.out
      have hny : ∀ k, (.slice b8 n8 c8 : Value).ownBlock = some k → k ≠ yb := HYN.out
      have hO10 := (hO8.setCell (a := ⟨yb, 0, none⟩) hnv (.int .i64 RZ)).setCell (a := ⟨yb, 1, none⟩) hnv (.slice b8 n8 c8)
      have hP10 := (hO8l.setCell (a := ⟨yb, 0, none⟩) hny (.int .i64 RZ)).setCell (a := ⟨yb, 1, none⟩) hny (.slice b8 n8 c8)
      clear hnv hny
      refine rd1 12 (fun K hK => ?_)
      go_simp
      refine hK.out _ _ ?_ (fun hHeld => ?_)
      focus ((try dsimp only); (exact ⟨by rw [hX10.cell]; rfl, by rw [hX10.cell]; rfl⟩))
      clear hK K
      try simp only [Act.put, pa, pb, pc]
      clear d0 d1 df0 df1
      (refine tk 13 ?_; try simp only [Act.put, pa, pb, pc])
      refine wpAnyH_done (by kernel_rfl) ?_ _
      obtain ⟨w11, HW11⟩ : ∃ w11, Hid (((w8.setCell ⟨yb, 0, none⟩ (.int .i64 RZ)).setCell ⟨yb, 1, none⟩ (.slice b8 n8 c8)) = w11) := ⟨_, Lib.hid rfl⟩
      rw [HW11.out] at hX10 hR10 hT10 hY10 hw10 hO10 hP10
      try rw [HW11.out]
      have hY10 : Blk w11 yb 29 #[.int .i64 RZ, .slice b8 n8 c8] := hY10
      have qx0 : w11.cell? ⟨w2.heap.size, 0, none⟩ = some (.int .i64 z) := (by rw [hX10.cell]; rfl)
      go_wp2
      clear qx0
      have hX11 := hX10.next (Below.refl _ w11).drew
      have hR11 := hR10.next (Below.refl _ w11).drew
      have hT11 := hT10.next (Below.refl _ w11).drew
      have hY11 := hY10.next (Below.refl _ w11).drew
      have hO11 := hO10.next (Below.refl _ w11).drew
      have hP11 := hP10.next (Below.refl _ w11).drew
      have hw11 := hw10.drew
      refine wp_region_held_drew (S := (fun W => W.cell? ⟨w2.heap.size, 0, none⟩ = some (.int .i64 z) ∧ W.cell? ⟨w2.heap.size, 1, none⟩ = some (.slice b3 l.length c3) ∧ W.cell? ⟨yb, 0, none⟩ = some (.int .i64 RZ) ∧ W.cell? ⟨yb, 1, none⟩ = some (.slice b8 n8 c8))) (by kernel_rfl) ?_ (fun hHeld => ?_)
      focus ((try dsimp only); (exact ⟨by rw [hX11.cell]; rfl, by rw [hX11.cell]; rfl, by rw [hY11.cell]; rfl, by rw [hY11.cell]; rfl⟩))
      obtain ⟨w12, HW12⟩ : ∃ w12, Hid (w11.drew = w12) := ⟨_, Lib.hid rfl⟩
      rw [HW12.out] at hHeld hX11 hR11 hT11 hY11 hO11 hP11 hw11
      rw [HW12.out]
      (refine tk 0 ?_; try simp only [Act.put, pa, pb, pc])
      (refine tk 1 ?_; try simp only [Act.put, pa, pb, pc])
      have d0 : w12.cell? ⟨w.heap.size, 0, none⟩ = some (.int .i64 0) := (by rw [hR11.cell]; rfl)
      have d1 : w12.cell? ⟨w.heap.size, 1, none⟩ = some (.slice none 0 0) := (by rw [hR11.cell]; rfl)
      have df0 := hR11.free 0
      have df1 := hR11.free 1
      have hXs := (hX11.setOther (a := ⟨w.heap.size, 0, none⟩) (show w2.heap.size ≠ w.heap.size from by omega) (.int .i64 z)).setOther (a := ⟨w.heap.size, 1, none⟩) (show w2.heap.size ≠ w.heap.size from by omega) (.slice b3 l.length c3)
      have hTs := (hT11.setOther (a := ⟨w.heap.size, 0, none⟩) (show w.heap.size + 1 ≠ w.heap.size from by omega) (.int .i64 z)).setOther (a := ⟨w.heap.size, 1, none⟩) (show w.heap.size + 1 ≠ w.heap.size from by omega) (.slice b3 l.length c3)
      have hYs := (hY11.setOther (a := ⟨w.heap.size, 0, none⟩) (show yb ≠ w.heap.size from by omega) (.int .i64 z)).setOther (a := ⟨w.heap.size, 1, none⟩) (show yb ≠ w.heap.size from by omega) (.slice b3 l.length c3)
      refine rd1 2 (fun K hK => ?_)
      go_simp
      refine hK.out _ _ ?_ (fun hHeld => ?_)
      focus ((try dsimp only); (exact ⟨by rw [hXs.cell]; rfl, by rw [hXs.cell]; rfl, by rw [hYs.cell]; rfl, by rw [hYs.cell]; rfl⟩))
      clear hK K
      try simp only [Act.put, pa, pb, pc]
      clear d0 d1 df0 df1
      have d0 : ((w12.setCell ⟨w.heap.size, 0, none⟩ (.int .i64 z)).setCell ⟨w.heap.size, 1, none⟩ (.slice b3 l.length c3)).cell? ⟨w.heap.size + 1, 0, none⟩ = some (.int .i64 0) := (by rw [hTs.cell]; rfl)
      have d1 : ((w12.setCell ⟨w.heap.size, 0, none⟩ (.int .i64 z)).setCell ⟨w.heap.size, 1, none⟩ (.slice b3 l.length c3)).cell? ⟨w.heap.size + 1, 1, none⟩ = some (.slice none 0 0) := (by rw [hTs.cell]; rfl)
      have df0 := hTs.free 0
      have df1 := hTs.free 1
      have hXt := (hXs.setOther (a := ⟨w.heap.size + 1, 0, none⟩) (show w2.heap.size ≠ w.heap.size + 1 from by omega) (.int .i64 RZ)).setOther (a := ⟨w.heap.size + 1, 1, none⟩) (show w2.heap.size ≠ w.heap.size + 1 from by omega) (.slice b8 n8 c8)
      have hYt := (hYs.setOther (a := ⟨w.heap.size + 1, 0, none⟩) (show yb ≠ w.heap.size + 1 from by omega) (.int .i64 RZ)).setOther (a := ⟨w.heap.size + 1, 1, none⟩) (show yb ≠ w.heap.size + 1 from by omega) (.slice b8 n8 c8)
      refine rd1 3 (fun K hK => ?_)
      go_simp
      refine hK.out _ _ ?_ (fun hHeld => ?_)
      focus ((try dsimp only); (exact ⟨by rw [hXt.cell]; rfl, by rw [hXt.cell]; rfl, by rw [hYt.cell]; rfl, by rw [hYt.cell]; rfl⟩))
      clear hK K
      try simp only [Act.put, pa, pb, pc]
      clear d0 d1 df0 df1
      refine wpAnyH_done (by kernel_rfl) ?_ _
      have hRz := (((hR11.set_ 0 (.int .i64 z)).set_ 1 (.slice b3 l.length c3)).setOther (a := ⟨w.heap.size + 1, 0, none⟩) (show w.heap.size ≠ w.heap.size + 1 from by omega) (.int .i64 RZ)).setOther (a := ⟨w.heap.size + 1, 1, none⟩) (show w.heap.size ≠ w.heap.size + 1 from by omega) (.slice b8 n8 c8)
      have hTz := (hTs.set_ 0 (.int .i64 RZ)).set_ 1 (.slice b8 n8 c8)
      have r0 : ((((w12.setCell ⟨w.heap.size, 0, none⟩ (.int .i64 z)).setCell ⟨w.heap.size, 1, none⟩ (.slice b3 l.length c3)).setCell ⟨w.heap.size + 1, 0, none⟩ (.int .i64 RZ)).setCell ⟨w.heap.size + 1, 1, none⟩ (.slice b8 n8 c8)).cell? ⟨w.heap.size, 0, none⟩ = some (.int .i64 z) := (by rw [hRz.cell]; rfl)
      have r1 : ((((w12.setCell ⟨w.heap.size, 0, none⟩ (.int .i64 z)).setCell ⟨w.heap.size, 1, none⟩ (.slice b3 l.length c3)).setCell ⟨w.heap.size + 1, 0, none⟩ (.int .i64 RZ)).setCell ⟨w.heap.size + 1, 1, none⟩ (.slice b8 n8 c8)).cell? ⟨w.heap.size, 1, none⟩ = some (.slice b3 l.length c3) := (by rw [hRz.cell]; rfl)
      have t0 : ((((w12.setCell ⟨w.heap.size, 0, none⟩ (.int .i64 z)).setCell ⟨w.heap.size, 1, none⟩ (.slice b3 l.length c3)).setCell ⟨w.heap.size + 1, 0, none⟩ (.int .i64 RZ)).setCell ⟨w.heap.size + 1, 1, none⟩ (.slice b8 n8 c8)).cell? ⟨w.heap.size + 1, 0, none⟩ = some (.int .i64 RZ) := (by rw [hTz.cell]; rfl)
      have t1 : ((((w12.setCell ⟨w.heap.size, 0, none⟩ (.int .i64 z)).setCell ⟨w.heap.size, 1, none⟩ (.slice b3 l.length c3)).setCell ⟨w.heap.size + 1, 0, none⟩ (.int .i64 RZ)).setCell ⟨w.heap.size + 1, 1, none⟩ (.slice b8 n8 c8)).cell? ⟨w.heap.size + 1, 1, none⟩ = some (.slice b8 n8 c8) := (by rw [hTz.cell]; rfl)
      go_wp2
      refine bodyPost_ret (v := .tuple #[.agg #[.int .i64 z, .slice b3 l.length c3], .agg #[.int .i64 RZ, .slice b8 n8 c8]]) (by simp [results, Try.results55, go_sem, r0, r1, t0, t1]) rfl ⟨z, .slice b3 l.length c3, l, RZ, .slice b8 n8 c8, RL, rfl, ?_, hf, ⟨by omega, by omega⟩, by omega, ?_, hRLf, ⟨hRZ1, hRZ2⟩, hRLl, ?_⟩
      · have hne : ∀ k, (.slice b3 l.length c3 : Value).ownBlock = some k → k ≠ w.heap.size := fun k hk => by have := HOB.out k hk; omega
        have hne1 : ∀ k, (.slice b3 l.length c3 : Value).ownBlock = some k → k ≠ w.heap.size + 1 := fun k hk => by have := HOB.out k hk; omega
        exact (((hO11.setCell (a := ⟨w.heap.size, 0, none⟩) hne _).setCell (a := ⟨w.heap.size, 1, none⟩) hne _).setCell (a := ⟨w.heap.size + 1, 0, none⟩) hne1 _).setCell (a := ⟨w.heap.size + 1, 1, none⟩) hne1 _
      · have hne : ∀ k, (.slice b8 n8 c8 : Value).ownBlock = some k → k ≠ w.heap.size := fun k hk => by have := HYB.out k hk; omega
        have hne1 : ∀ k, (.slice b8 n8 c8 : Value).ownBlock = some k → k ≠ w.heap.size + 1 := fun k hk => by have := HYB.out k hk; omega
        exact (((hP11.setCell (a := ⟨w.heap.size, 0, none⟩) hne _).setCell (a := ⟨w.heap.size, 1, none⟩) hne _).setCell (a := ⟨w.heap.size + 1, 0, none⟩) hne1 _).setCell (a := ⟨w.heap.size + 1, 1, none⟩) hne1 _
      · exact (((hw11.setCell (Nat.le_refl _) _).setCell (Nat.le_refl _) _).setCell (Nat.le_succ _) _).setCell (Nat.le_succ _) _
  · have hkd : ((k5 : Int) == 0) = false := by simp; omega
    go_wp2
    have hX5d := hX5.next (Below.refl _ w5).drew
    have hR5d := hR5.next (Below.refl _ w5).drew
    have hT5d := hT5.next (Below.refl _ w5).drew
    have hq5d : Rdr w5.drew g A m c q5 := hq5.next (Below.refl _ _).drew
    have hw5d : Below w.heap.size w w5.drew := hw5.drew
    have hO5d := hO5.next (Below.refl _ w5).drew
    refine wp_region_held_drew (S := (fun W => W.cell? ⟨w2.heap.size, 0, none⟩ = some (.int .i64 z) ∧ W.cell? ⟨w2.heap.size, 1, none⟩ = some (.slice b3 l.length c3))) (by kernel_rfl) ?_ (fun hHeld => ?_)
    focus ((try dsimp only); (exact ⟨by rw [hX5d.cell]; rfl, by rw [hX5d.cell]; rfl⟩))
    (refine tk 0 ?_; try simp only [Act.put, pa, pb, pc])
    (refine tk 1 ?_; try simp only [Act.put, pa, pb, pc])
    (refine tk 2 ?_; try simp only [Act.put, pa, pb, pc])
    (refine tk 3 ?_; try simp only [Act.put, pa, pb, pc])
    (refine rd1 4 (fun K hK => ?_); go_simp; (go_at_call 91; refine (bentV_d g A m c q5 z b3 c3 l 0 _ hq5d (by omega) hf hz1 hz2 (by omega) (by omega) (hO5d.rd'.2.2.2)).mono ?_; rintro e w6 ⟨z6, v6, l6, rfl, hO6y, hf6, ⟨hz61, hz62⟩, hl6, hd6⟩; obtain ⟨q6, h61, h62, hq6⟩ := hd6.rdr; have hX6 := hX5d.drawn (by omega) hd6.grown; have hR6 := hR5d.drawn (by omega) hd6.grown; have hT6 := hT5d.drawn (by omega) hd6.grown; have hw6 : Below w.heap.size w w6 := hw5d.grown hd6.grown hw5d.size (fun k hk => by have := Option.some.inj hk; omega); have hO6 := hO5d.kept hd6.grown (fun k hk e => by have := HOG.out k hk; have := Option.some.inj e; omega); obtain ⟨b6, c6, rfl, hv1, hv2, hv3⟩ := hO6y.read; clear hv1 hv2); go_wp2_with fail; refine hK.out _ _ ?_ (fun hHeld => ?_); (focus ((try dsimp only); (exact ⟨by rw [hX6.cell]; rfl, by rw [hX6.cell]; rfl⟩))); clear hK K; (try simp only [Act.put, pa, pb, pc]))
    (refine rd1 5 (fun K hK => ?_); go_simp; (go_at_call 91; refine (bentV_d g A m c q6 z6 b6 c6 l6 1 _ hq6 (by omega) hf6 hz61 hz62 (by omega) (by omega) hv3).mono ?_; rintro e w8 ⟨RZ, v8, RL, rfl, hO8y, hRLf, ⟨hRZ1, hRZ2⟩, hRLl, hd8⟩; have hX8 := hX6.drawn (by omega) hd8.grown; have hR8 := hR6.drawn (by omega) hd8.grown; have hT8 := hT6.drawn (by omega) hd8.grown; have hw8 : Below w.heap.size w w8 := hw6.grown hd8.grown hw6.size (fun k hk => by have := Option.some.inj hk; omega); have hO8 := hO6.kept hd8.grown (fun k hk e => by have := HOG.out k hk; have := Option.some.inj e; omega); have hs6 := hw6.size; have hT6l := hT6.lt; have HYB0 : Hid (∀ k, v8.ownBlock = some k → w.heap.size + 1 < k) := (fun k hk => by have := (hO8y.block_lt hk).1; omega); have hO8l := hO8y.low hs6; obtain ⟨b8, n8, c8, rfl⟩ := hO8l.slice); go_wp2_with fail; refine hK.out _ _ ?_ (fun hHeld => ?_); (focus ((try dsimp only); (exact ⟨by rw [hX8.cell]; rfl, by rw [hX8.cell]; rfl⟩))); clear hK K; (try simp only [Act.put, pa, pb, pc]))
    have HYB : Hid (∀ k, (.slice b8 n8 c8 : Value).ownBlock = some k → w.heap.size + 1 < k) := HYB0.out
    have d0 : w8.cell? ⟨w.heap.size, 0, none⟩ = some (.int .i64 0) := (by rw [hR8.cell]; rfl)
    have d1 : w8.cell? ⟨w.heap.size, 1, none⟩ = some (.slice none 0 0) := (by rw [hR8.cell]; rfl)
    have df0 := hR8.free 0
    have df1 := hR8.free 1
    have hXs := (hX8.setOther (a := ⟨w.heap.size, 0, none⟩) (show w2.heap.size ≠ w.heap.size from by omega) (.int .i64 z)).setOther (a := ⟨w.heap.size, 1, none⟩) (show w2.heap.size ≠ w.heap.size from by omega) (.slice b3 l.length c3)
    have hTs := (hT8.setOther (a := ⟨w.heap.size, 0, none⟩) (show w.heap.size + 1 ≠ w.heap.size from by omega) (.int .i64 z)).setOther (a := ⟨w.heap.size, 1, none⟩) (show w.heap.size + 1 ≠ w.heap.size from by omega) (.slice b3 l.length c3)
    refine rd1 6 (fun K hK => ?_)
    go_simp
    refine hK.out _ _ ?_ (fun hHeld => ?_)
    focus ((try dsimp only); (exact ⟨by rw [hXs.cell]; rfl, by rw [hXs.cell]; rfl⟩))
    clear hK K
    try simp only [Act.put, pa, pb, pc]
    clear d0 d1 df0 df1
    have d0 : ((w8.setCell ⟨w.heap.size, 0, none⟩ (.int .i64 z)).setCell ⟨w.heap.size, 1, none⟩ (.slice b3 l.length c3)).cell? ⟨w.heap.size + 1, 0, none⟩ = some (.int .i64 0) := (by rw [hTs.cell]; rfl)
    have d1 : ((w8.setCell ⟨w.heap.size, 0, none⟩ (.int .i64 z)).setCell ⟨w.heap.size, 1, none⟩ (.slice b3 l.length c3)).cell? ⟨w.heap.size + 1, 1, none⟩ = some (.slice none 0 0) := (by rw [hTs.cell]; rfl)
    have df0 := hTs.free 0
    have df1 := hTs.free 1
    have hXt := (hXs.setOther (a := ⟨w.heap.size + 1, 0, none⟩) (show w2.heap.size ≠ w.heap.size + 1 from by omega) (.int .i64 RZ)).setOther (a := ⟨w.heap.size + 1, 1, none⟩) (show w2.heap.size ≠ w.heap.size + 1 from by omega) (.slice b8 n8 c8)
    refine rd1 7 (fun K hK => ?_)
    go_simp
    refine hK.out _ _ ?_ (fun hHeld => ?_)
    focus ((try dsimp only); (exact ⟨by rw [hXt.cell]; rfl, by rw [hXt.cell]; rfl⟩))
    clear hK K
    try simp only [Act.put, pa, pb, pc]
    clear d0 d1 df0 df1
    refine wpAnyH_done (by kernel_rfl) ?_ _
    have hRz := (((hR8.set_ 0 (.int .i64 z)).set_ 1 (.slice b3 l.length c3)).setOther (a := ⟨w.heap.size + 1, 0, none⟩) (show w.heap.size ≠ w.heap.size + 1 from by omega) (.int .i64 RZ)).setOther (a := ⟨w.heap.size + 1, 1, none⟩) (show w.heap.size ≠ w.heap.size + 1 from by omega) (.slice b8 n8 c8)
    have hTz := (hTs.set_ 0 (.int .i64 RZ)).set_ 1 (.slice b8 n8 c8)
    have r0 : ((((w8.setCell ⟨w.heap.size, 0, none⟩ (.int .i64 z)).setCell ⟨w.heap.size, 1, none⟩ (.slice b3 l.length c3)).setCell ⟨w.heap.size + 1, 0, none⟩ (.int .i64 RZ)).setCell ⟨w.heap.size + 1, 1, none⟩ (.slice b8 n8 c8)).cell? ⟨w.heap.size, 0, none⟩ = some (.int .i64 z) := (by rw [hRz.cell]; rfl)
    have r1 : ((((w8.setCell ⟨w.heap.size, 0, none⟩ (.int .i64 z)).setCell ⟨w.heap.size, 1, none⟩ (.slice b3 l.length c3)).setCell ⟨w.heap.size + 1, 0, none⟩ (.int .i64 RZ)).setCell ⟨w.heap.size + 1, 1, none⟩ (.slice b8 n8 c8)).cell? ⟨w.heap.size, 1, none⟩ = some (.slice b3 l.length c3) := (by rw [hRz.cell]; rfl)
    have t0 : ((((w8.setCell ⟨w.heap.size, 0, none⟩ (.int .i64 z)).setCell ⟨w.heap.size, 1, none⟩ (.slice b3 l.length c3)).setCell ⟨w.heap.size + 1, 0, none⟩ (.int .i64 RZ)).setCell ⟨w.heap.size + 1, 1, none⟩ (.slice b8 n8 c8)).cell? ⟨w.heap.size + 1, 0, none⟩ = some (.int .i64 RZ) := (by rw [hTz.cell]; rfl)
    have t1 : ((((w8.setCell ⟨w.heap.size, 0, none⟩ (.int .i64 z)).setCell ⟨w.heap.size, 1, none⟩ (.slice b3 l.length c3)).setCell ⟨w.heap.size + 1, 0, none⟩ (.int .i64 RZ)).setCell ⟨w.heap.size + 1, 1, none⟩ (.slice b8 n8 c8)).cell? ⟨w.heap.size + 1, 1, none⟩ = some (.slice b8 n8 c8) := (by rw [hTz.cell]; rfl)
    go_wp2
    refine bodyPost_ret (v := .tuple #[.agg #[.int .i64 z, .slice b3 l.length c3], .agg #[.int .i64 RZ, .slice b8 n8 c8]]) (by simp [results, Try.results55, go_sem, r0, r1, t0, t1]) rfl ⟨z, .slice b3 l.length c3, l, RZ, .slice b8 n8 c8, RL, rfl, ?_, hf, ⟨by omega, by omega⟩, by omega, ?_, hRLf, ⟨by omega, by omega⟩, by omega, ?_⟩
    · have hne : ∀ k, (.slice b3 l.length c3 : Value).ownBlock = some k → k ≠ w.heap.size := fun k hk => by have := HOB.out k hk; omega
      have hne1 : ∀ k, (.slice b3 l.length c3 : Value).ownBlock = some k → k ≠ w.heap.size + 1 := fun k hk => by have := HOB.out k hk; omega
      exact (((hO8.setCell (a := ⟨w.heap.size, 0, none⟩) hne _).setCell (a := ⟨w.heap.size, 1, none⟩) hne _).setCell (a := ⟨w.heap.size + 1, 0, none⟩) hne1 _).setCell (a := ⟨w.heap.size + 1, 1, none⟩) hne1 _
    · have hne : ∀ k, (.slice b8 n8 c8 : Value).ownBlock = some k → k ≠ w.heap.size := fun k hk => by have := HYB.out k hk; omega
      have hne1 : ∀ k, (.slice b8 n8 c8 : Value).ownBlock = some k → k ≠ w.heap.size + 1 := fun k hk => by have := HYB.out k hk; omega
      exact (((hO8l.setCell (a := ⟨w.heap.size, 0, none⟩) hne _).setCell (a := ⟨w.heap.size, 1, none⟩) hne _).setCell (a := ⟨w.heap.size + 1, 0, none⟩) hne1 _).setCell (a := ⟨w.heap.size + 1, 1, none⟩) hne1 _
    · exact (((hw8.setCell (Nat.le_refl _) _).setCell (Nat.le_refl _) _).setCell (Nat.le_succ _) _).setCell (Nat.le_succ _) _

end Go.Proofs.Ytbhdgalkedegjaa
