/- The draws of chapter 3: two transactions. -/
import Derived.Test.YtbeklnhngjmpiaaDw2
namespace Go.Proofs.Ytbeklnhngjmpiaa
open Go.RowKit
set_option linter.unusedVariables false
set_option maxRecDepth 100000

theorem wputW_13 (z : Int) (l : List V) (a : Int) (ws : List X) (x : X) (hl : ws.length ≤ 6) : (wputW z l a ws x).length ≤ 13 := by
  unfold wputW
  split
  · split
    · have h1 := putXs_length ws x
      omega
    · omega
  · simp
theorem sameW_symm (z y : Int) (l k : List X) : sameW z y l k = sameW y z k l := by
  cases h : sameW z y l k
  · cases h2 : sameW y z k l
    · rfl
    · obtain ⟨e1, e2⟩ := sameW_iff.1 h2
      subst e1 e2
      rw [sameW_refl] at h; cases h
  · obtain ⟨e1, e2⟩ := sameW_iff.1 h
    subst e1 e2
    rw [sameW_refl]
theorem sameW_more (z : Int) (l : List X) (x : X) : sameW z z l (l ++ [x]) = false := by
  cases h : sameW z z l (l ++ [x])
  · rfl
  · have e := congrArg List.length (sameW_iff.1 h).2
    simp at e
def DrawnWW (w : World) (e : Ending) (w' : World) : Prop := ∃ a v l y u k, e = .returned (.tuple #[.agg #[.int .i64 a, v], .agg #[.int .i64 y, u]]) ∧ OwnG (α := X) w' w.heap.size v l ∧ l.length ≤ 20 ∧ OwnG (α := X) w' w.heap.size u k ∧ k.length ≤ 20 ∧ Below w.heap.size w w'

set_option maxHeartbeats 8000000 in
theorem drawWorkSame (A : Option Addr) (n c : Nat) (w : World) (hc : n ≤ c) (hcm : c ≤ maxLen) (hr : RdB w w.heap.size A n) : Calls Try.prog 22 #[.slice A n c] w (DrawnWW w) := by
  have hR0 : Blk ((w.alloc (.cells #[.int .i64 0, .slice none 0 0] 28)).alloc (.cells #[.int .i64 0, .slice none 0 0] 28)) w.heap.size 28 #[.int .i64 0, .slice none 0 0] := (blkA w #[.int .i64 0, .slice none 0 0] 28).alloc (.cells #[.int .i64 0, .slice none 0 0] 28)
  have hT0 : Blk ((w.alloc (.cells #[.int .i64 0, .slice none 0 0] 28)).alloc (.cells #[.int .i64 0, .slice none 0 0] 28)) (w.heap.size + 1) 28 #[.int .i64 0, .slice none 0 0] := blkAt #[.int .i64 0, .slice none 0 0] 28 (World.size_alloc _ _)
  have hw0 : Below w.heap.size w ((w.alloc (.cells #[.int .i64 0, .slice none 0 0] 28)).alloc (.cells #[.int .i64 0, .slice none 0 0] 28)) := below_alloc (below_alloc (Below.refl _ _) _) _
  go_enter Try.func22, Try.ntmps22
  go_wp2_with fail
  refine (open_d A n c _ hc hcm (hr.next hw0)).mono ?_
  rintro e w1 ⟨m, rfl, hq1, hb1⟩
  have hg : ((w.alloc (.cells #[.int .i64 0, .slice none 0 0] 28)).alloc (.cells #[.int .i64 0, .slice none 0 0] 28)).heap.size = w.heap.size + 1 + 1 := by rw [World.size_alloc, World.size_alloc]
  rw [hg] at hq1
  have hw1 := below_next hw0 hb1
  have hR1 := hR0.next hb1
  have hT1 := hT0.next hb1
  obtain ⟨g, HG, hg1⟩ : ∃ g, Hid (w.heap.size + 1 + 1 = g) ∧ w.heap.size + 1 < g := ⟨_, Lib.hid rfl, by omega⟩
  rw [HG.out] at hq1
  have hgw := hq1.lt
  go_wp2_with fail
  try simp only [World.size_alloc]
  try rw [HG.out]
  refine (some_dP g A m c 0 w1 hq1 (by omega)).mono ?_
  rintro e w2 ⟨z, v2, l, rfl, hO2, hf, hP, hd2⟩
  obtain ⟨q2, h21, h22, hq2⟩ := hd2.rdr
  have hR2 := hR1.drawn (by omega) hd2.grown
  have hT2 := hT1.drawn (by omega) hd2.grown
  have hw2 : Below w.heap.size w w2 := hw1.grown hd2.grown hw1.size (fun k hk => by have := Option.some.inj hk; omega)
  have hs1 := hw1.size
  have hs2 := hw2.size
  have hg2 := hq2.lt
  have hT2l := hT2.lt
  have hll := hP.len
  have hz0 := hP.now0
  have hz1 := hP.now
  have hO2 := hO2.low (show g + 1 ≤ w1.heap.size from hgw)
  obtain ⟨b3, c3, rfl, hy1, hy2, hy3⟩ := hO2.read
  clear hy2 hy3 hd2 hq1
  have hb4 : Below w2.heap.size w2 (w2.alloc (.cells #[.int .i64 z, .slice b3 l.length c3] 32)) := below_alloc (Below.refl _ _) _
  have hX4 := blkA w2 #[.int .i64 z, .slice b3 l.length c3] 32
  have hz4 : (w2.alloc (.cells #[.int .i64 z, .slice b3 l.length c3] 32)).heap.size = w2.heap.size + 1 := World.size_alloc _ _
  have hR4 := hR2.next hb4
  have hT4 := hT2.next hb4
  have hO4 := hO2.next hb4
  have hq4 := hq2.next hb4
  have hw4 := below_next hw2 hb4
  go_wp2_with fail
  refine (someW_d g A m c q2 z b3 c3 l _ hq4 (by omega) hP hf (g + 1) (Nat.lt_succ_self g) hO4).mono ?_
  rintro e w5 ⟨a, v5, lx, rfl, hN5, hfx, hfa, hlx, hd5⟩
  obtain ⟨q5, h51, h52, hq5⟩ := hd5.rdr
  have hX5 := hX4.drawn (by omega) hd5.grown
  have hR5 := hR4.drawn (by omega) hd5.grown
  have hT5 := hT4.drawn (by omega) hd5.grown
  have hO5 := hO4.drawn (show g < g + 1 from Nat.lt_succ_self g) hd5.grown
  have hw5 : Below w.heap.size w w5 := hw4.grown hd5.grown hw4.size (fun k hk => by have := Option.some.inj hk; omega)
  have hg5 := hq5.lt
  have hX5l := hX5.lt
  have hT5l := hT5.lt
  have HNB0 : Hid (∀ k, v5.ownBlock = some k → w.heap.size + 1 < k) := Lib.hid (fun k hk => by have := (hN5.block_lt hk).1; omega)
  have HNX0 : Hid (∀ k, v5.ownBlock = some k → k < w5.heap.size) := Lib.hid (fun k hk => (hN5.block_lt hk).2)
  have hN5 := hN5.low (show g + 1 ≤ (w2.alloc (.cells #[.int .i64 z, .slice b3 l.length c3] 32)).heap.size from by omega)
  obtain ⟨b5, c5, rfl, hu1, hu2, hu3⟩ := hN5.read
  clear hu1 hu2 hu3 hd5 hq4 hb4
  have HNB : Hid (∀ k, (.slice b5 lx.length c5 : Value).ownBlock = some k → w.heap.size + 1 < k) := HNB0
  have HNX : Hid (∀ k, (.slice b5 lx.length c5 : Value).ownBlock = some k → k < w5.heap.size) := HNX0
  have hb6 : Below w5.heap.size w5 (w5.alloc (.cells #[.int .i64 a, .slice b5 lx.length c5] 28)) := below_alloc (Below.refl _ _) _
  have hY6 := blkA w5 #[.int .i64 a, .slice b5 lx.length c5] 28
  have hX6 := hX5.next hb6
  have hR6 := hR5.next hb6
  have hT6 := hT5.next hb6
  have hO6 := hO5.next hb6
  have hN6 := hN5.next hb6
  have hq6 := hq5.next hb6
  have hw6 := below_next hw5 hb6
  go_wp2_with fail
  refine (pick_z g A m c q5 2 _ hq6 (by omega) (by omega) (by omega)).mono ?_
  rintro e w7 ⟨k7, rfl, hk7, hd7⟩
  obtain ⟨q7, h71, h72, hq7⟩ := hd7.rdr
  have hX7 := hX6.drawn (by omega) hd7.grown
  have hY7 := hY6.drawn (by omega) hd7.grown
  have hR7 := hR6.drawn (by omega) hd7.grown
  have hT7 := hT6.drawn (by omega) hd7.grown
  have hO7 := hO6.drawn (show g < g + 1 from Nat.lt_succ_self g) hd7.grown
  have hN7 := hN6.drawn (show g < g + 1 from Nat.lt_succ_self g) hd7.grown
  have hw7 : Below w.heap.size w w7 := hw6.grown hd7.grown hw6.size (fun k hk => by have := Option.some.inj hk; omega)
  have hY7l := hY7.lt
  have hg7 := hq7.lt
  clear hd7 hq6 hb6
  by_cases hk0 : k7 = 0
  · have hkd : ((k7 : Int) == 0) = true := by simp [hk0]
    have hal := atL_length l z
    have hfr := fitR_at hf z
    obtain ⟨al, HAL⟩ : ∃ al, Hid (atL l z = al) := ⟨_, Lib.hid rfl⟩
    rw [HAL.out] at hal hfr
    go_wp2
    have hXD := hX7.next (Below.refl _ w7).drew
    have hYD := hY7.next (Below.refl _ w7).drew
    have hRD := hR7.next (Below.refl _ w7).drew
    have hTD := hT7.next (Below.refl _ w7).drew
    have hOD := hO7.next (Below.refl _ w7).drew
    have hND := hN7.next (Below.refl _ w7).drew
    have hqD := hq7.next (Below.refl _ w7).drew
    have hwD := hw7.drew
    refine wp_region_held_drew (S := (fun W => W.cell? ⟨w2.heap.size, 0, none⟩ = some (.int .i64 z) ∧ W.cell? ⟨w2.heap.size, 1, none⟩ = some (.slice b3 l.length c3) ∧ W.cell? ⟨w5.heap.size, 0, none⟩ = some (.int .i64 a) ∧ W.cell? ⟨w5.heap.size, 1, none⟩ = some (.slice b5 lx.length c5))) (by kernel_rfl) ?_ (fun hHeld => ?_)
    focus ((try dsimp only); (exact ⟨by rw [hXD.cell]; rfl, by rw [hXD.cell]; rfl, by rw [hYD.cell]; rfl, by rw [hYD.cell]; rfl⟩))
    obtain ⟨wd, HWD⟩ : ∃ wd, Hid (w7.drew = wd) := ⟨_, Lib.hid rfl⟩
    rw [HWD.out] at hHeld hXD hYD hRD hTD hOD hND hqD hwD
    rw [HWD.out]
    (refine tk 0 ?_; try simp only [Act.put, pa, pb, pc])
    (refine tk 1 ?_; try simp only [Act.put, pa, pb, pc])
    (refine tk 2 ?_; try simp only [Act.put, pa, pb, pc])
    (refine tk 3 ?_; try simp only [Act.put, pa, pb, pc])
    (refine tk 4 ?_; try simp only [Act.put, pa, pb, pc])
    (refine tk 5 ?_; try simp only [Act.put, pa, pb, pc])
    refine wpAnyH_ready (rs := [6, 12]) (by kernel_rfl) (by simp) (AllReadyH.cons (by (simp only [ga, gb, gc]; rfl)) (fun K hK => ?_) (AllReadyH.cons (by (simp only [ga, gb, gc]; rfl)) (fun K hK => ?_) AllReadyH.nil))
    · go_simp
      go_at_call 36; refine (specAt z b3 c3 l z _ hy1 (by omega) (hOD.rd'.2.2.2)).mono ?_; rw [HAL.out]; rintro e w8 ⟨v8, rfl, hA8, hb8⟩; have hX8 := hXD.next hb8; have hY8 := hYD.next hb8; have hR8 := hRD.next hb8; have hT8 := hTD.next hb8; have hO8 := hOD.next hb8; have hN8 := hND.next hb8; have hq8 := hqD.next hb8; have hw8 := below_next hwD hb8; obtain ⟨A8, c8, rfl, hv1, hv2, hv3⟩ := hA8.read; clear hv1 hv2 hv3; have hl8 := hqD.lt
      go_wp2_with fail
      refine hK.out _ _ ?_ (fun hHeld => ?_)
      focus ((try dsimp only); (exact ⟨by rw [hX8.cell]; rfl, by rw [hX8.cell]; rfl, by rw [hY8.cell]; rfl, by rw [hY8.cell]; rfl⟩))
      clear hK K
      try simp only [Act.put, pa, pb, pc]
      refine wpAnyH_ready (rs := [7, 12]) (by kernel_rfl) (by simp) (AllReadyH.cons (by (simp only [ga, gb, gc]; rfl)) (fun K hK => ?_) (AllReadyH.cons (by (simp only [ga, gb, gc]; rfl)) (fun K hK => ?_) AllReadyH.nil))
      · go_simp
        go_at_call 48; refine (write3_d g A m c q7 A8 c8 al _ hq8 (by omega) hfr (by omega) _ hl8 hA8).mono ?_; rintro e w9 ⟨x, rfl, hx, hd9⟩; have hX9 := hX8.drawn (by omega) hd9.grown; have hY9 := hY8.drawn (by omega) hd9.grown; have hR9 := hR8.drawn (by omega) hd9.grown; have hT9 := hT8.drawn (by omega) hd9.grown; have hO9 := hO8.drawn (show g < g + 1 from Nat.lt_succ_self g) hd9.grown; have hN9 := hN8.drawn (show g < g + 1 from Nat.lt_succ_self g) hd9.grown; have hw9 : Below w.heap.size w w9 := hw8.grown hd9.grown hw8.size (fun k hk => by have := Option.some.inj hk; omega); have hpl := wputW_13 z l a lx x (by omega); obtain ⟨RA, RW, RC, HRR⟩ : ∃ RA RW RC, Hid (wputA z l a lx = RA ∧ wputW z l a lx x = RW ∧ wputC z l a lx x = RC) := ⟨_, _, _, Lib.hid ⟨rfl, rfl, rfl⟩⟩; rw [HRR.out.2.1] at hpl
        go_wp2_with fail
        refine hK.out _ _ ?_ (fun hHeld => ?_)
        focus ((try dsimp only); (exact ⟨by rw [hX9.cell]; rfl, by rw [hX9.cell]; rfl, by rw [hY9.cell]; rfl, by rw [hY9.cell]; rfl⟩))
        clear hK K
        try simp only [Act.put, pa, pb, pc]
        refine wpAnyH_ready (rs := [8, 12]) (by kernel_rfl) (by simp) (AllReadyH.cons (by (simp only [ga, gb, gc]; rfl)) (fun K hK => ?_) (AllReadyH.cons (by (simp only [ga, gb, gc]; rfl)) (fun K hK => ?_) AllReadyH.nil))
        · go_simp
          go_at_call 47; refine (specWorkPutO hO9 hN9 hf hfx hx (by omega) (by omega)).mono ?_; rw [HRR.out.1, HRR.out.2.1, HRR.out.2.2]; rintro e w10 ⟨v10, rfl, hM10, hb10⟩; have hX10 := hX9.next hb10; have hY10 := hY9.next hb10; have hR10 := hR9.next hb10; have hT10 := hT9.next hb10; have hN10 := hN9.next hb10; have hw10 := below_next hw9 hb10; have hs9 := hw9.size; have hTl9 := hT9.lt; have hYl9 := hY9.lt; have HMB : Hid (∀ k, v10.ownBlock = some k → w.heap.size + 1 < k) := (fun k hk => by have := (hM10.block_lt hk).1; omega); have HMX : Hid (∀ k, v10.ownBlock = some k → k < w10.heap.size) := (fun k hk => (hM10.block_lt hk).2); have hM10 := hM10.low hs9; obtain ⟨b10, n10, c10, rfl⟩ := hM10.slice
          go_wp2_with fail
          refine hK.out _ _ ?_ (fun hHeld => ?_)
          focus ((try dsimp only); (exact ⟨by rw [hX10.cell]; rfl, by rw [hX10.cell]; rfl, by rw [hY10.cell]; rfl, by rw [hY10.cell]; rfl⟩))
          clear hK K
          try simp only [Act.put, pa, pb, pc]
          (refine tk 9 ?_; try simp only [Act.put, pa, pb, pc])
          (refine tk 10 ?_; try simp only [Act.put, pa, pb, pc])
          (refine tk 11 ?_; try simp only [Act.put, pa, pb, pc])
          have hb11 : Below w10.heap.size w10 (w10.alloc (.cells #[.int .i64 0, .slice none 0 0] 28)) := below_alloc (Below.refl _ _) _
          have hZ11 := blkA w10 #[.int .i64 0, .slice none 0 0] 28
          have hX11 := hX10.next hb11
          have hY11 := hY10.next hb11
          have hY10l := hY10.lt
          have hX10l := hX10.lt
          have hT10l := hT10.lt
          refine rd1 12 (fun K hK => ?_)
          go_simp
          refine hK.out _ _ ?_ (fun hHeld => ?_)
          focus ((try dsimp only); (exact ⟨by rw [hX11.cell]; rfl, by rw [hX11.cell]; rfl, by rw [hY11.cell]; rfl, by rw [hY11.cell]; rfl⟩))
          clear hK K
          try simp only [Act.put, pa, pb, pc]
          have d0 : (w10.alloc (.cells #[.int .i64 0, .slice none 0 0] 28)).cell? ⟨w10.heap.size, 0, none⟩ = some (.int .i64 0) := (by rw [hZ11.cell]; rfl)
          have d1 : (w10.alloc (.cells #[.int .i64 0, .slice none 0 0] 28)).cell? ⟨w10.heap.size, 1, none⟩ = some (.slice none 0 0) := (by rw [hZ11.cell]; rfl)
          have df0 := hZ11.free 0
          have df1 := hZ11.free 1
          have hb12 : Below w10.heap.size w10 (w10.alloc (.cells #[.int .i64 RA, .slice b10 n10 c10] 28)) := below_alloc (Below.refl _ _) _
          have hX12 := hX10.next hb12
          have hY12 := hY10.next hb12
          have hR12 := hR10.next hb12
          have hT12 := hT10.next hb12
          have hN12 := hN10.next hb12
          have hw12 := below_next hw10 hb12
          have hZ12 := blkA w10 #[.int .i64 RA, .slice b10 n10 c10] 28
          have hM12 := hM10.next hb12
          refine rd1 13 (fun K hK => ?_)
          go_simp
          refine hK.out _ _ ?_ (fun hHeld => ?_)
          focus ((try dsimp only); (exact ⟨by rw [hX12.cell]; rfl, by rw [hX12.cell]; rfl, by rw [hY12.cell]; rfl, by rw [hY12.cell]; rfl⟩))
          clear hK K
          try simp only [Act.put, pa, pb, pc]
          clear d0 d1 df0 df1
          obtain ⟨yb, HYb⟩ : ∃ yb, Hid (w10.heap.size = yb) := ⟨_, Lib.hid rfl⟩
          have hyb1 : w.heap.size + 1 < yb := by have := HYb.out; omega
          have hyb2 : w5.heap.size < yb := by have := HYb.out; omega
          have hyb4 : w2.heap.size < yb := by have := HYb.out; omega
          (refine tk 14 ?_; try simp only [Act.put, pa, pb, pc])
          refine wpAnyH_done (by kernel_rfl) ?_ _
          obtain ⟨w13, HW13⟩ : ∃ w13, Hid ((w10.alloc (.cells #[.int .i64 RA, .slice b10 n10 c10] 28)) = w13) := ⟨_, Lib.hid rfl⟩
          rw [HW13.out] at hX12 hY12 hR12 hT12 hZ12 hw12 hN12 hM12
          try rw [HW13.out]
          rw [HYb.out] at hZ12
          try rw [HYb.out]
          have hZ12 : Blk w13 yb 28 #[.int .i64 RA, .slice b10 n10 c10] := hZ12
          go_wp2
          have hY14 := hY12.next (Below.refl _ w13).drew
          have hR14 := hR12.next (Below.refl _ w13).drew
          have hT14 := hT12.next (Below.refl _ w13).drew
          have hZ14 := hZ12.next (Below.refl _ w13).drew
          have hN14 := hN12.next (Below.refl _ w13).drew
          have hM14 := hM12.next (Below.refl _ w13).drew
          have hw14 := hw12.drew
          refine wp_region_held_drew (S := (fun W => W.cell? ⟨w5.heap.size, 0, none⟩ = some (.int .i64 a) ∧ W.cell? ⟨w5.heap.size, 1, none⟩ = some (.slice b5 lx.length c5) ∧ W.cell? ⟨yb, 0, none⟩ = some (.int .i64 RA) ∧ W.cell? ⟨yb, 1, none⟩ = some (.slice b10 n10 c10))) (by kernel_rfl) ?_ (fun hHeld => ?_)
          focus ((try dsimp only); (exact ⟨by rw [hY14.cell]; rfl, by rw [hY14.cell]; rfl, by rw [hZ14.cell]; rfl, by rw [hZ14.cell]; rfl⟩))
          obtain ⟨w15, HW15⟩ : ∃ w15, Hid (w13.drew = w15) := ⟨_, Lib.hid rfl⟩
          rw [HW15.out] at hHeld hY14 hR14 hT14 hZ14 hN14 hM14 hw14
          rw [HW15.out]
          (refine tk 0 ?_; try simp only [Act.put, pa, pb, pc])
          (refine tk 1 ?_; try simp only [Act.put, pa, pb, pc])
          have d0 : w15.cell? ⟨w.heap.size, 0, none⟩ = some (.int .i64 0) := (by rw [hR14.cell]; rfl)
          have d1 : w15.cell? ⟨w.heap.size, 1, none⟩ = some (.slice none 0 0) := (by rw [hR14.cell]; rfl)
          have df0 := hR14.free 0
          have df1 := hR14.free 1
          have hTs := (hT14.setOther (a := ⟨w.heap.size, 0, none⟩) (show w.heap.size + 1 ≠ w.heap.size from by omega) (.int .i64 a)).setOther (a := ⟨w.heap.size, 1, none⟩) (show w.heap.size + 1 ≠ w.heap.size from by omega) (.slice b5 lx.length c5)
          have hk0s := (hY14.setOther (a := ⟨w.heap.size, 0, none⟩) (show w5.heap.size ≠ w.heap.size from by omega) (.int .i64 a)).setOther (a := ⟨w.heap.size, 1, none⟩) (show w5.heap.size ≠ w.heap.size from by omega) (.slice b5 lx.length c5)
          have hk1s := (hZ14.setOther (a := ⟨w.heap.size, 0, none⟩) (show yb ≠ w.heap.size from by omega) (.int .i64 a)).setOther (a := ⟨w.heap.size, 1, none⟩) (show yb ≠ w.heap.size from by omega) (.slice b5 lx.length c5)
          refine rd1 2 (fun K hK => ?_)
          go_simp
          refine hK.out _ _ ?_ (fun hHeld => ?_)
          focus ((try dsimp only); (exact ⟨by rw [hk0s.cell]; rfl, by rw [hk0s.cell]; rfl, by rw [hk1s.cell]; rfl, by rw [hk1s.cell]; rfl⟩))
          clear hK K
          try simp only [Act.put, pa, pb, pc]
          clear d0 d1 df0 df1
          have d0 : ((w15.setCell ⟨w.heap.size, 0, none⟩ (.int .i64 a)).setCell ⟨w.heap.size, 1, none⟩ (.slice b5 lx.length c5)).cell? ⟨w.heap.size + 1, 0, none⟩ = some (.int .i64 0) := (by rw [hTs.cell]; rfl)
          have d1 : ((w15.setCell ⟨w.heap.size, 0, none⟩ (.int .i64 a)).setCell ⟨w.heap.size, 1, none⟩ (.slice b5 lx.length c5)).cell? ⟨w.heap.size + 1, 1, none⟩ = some (.slice none 0 0) := (by rw [hTs.cell]; rfl)
          have df0 := hTs.free 0
          have df1 := hTs.free 1
          have hk0t := (hk0s.setOther (a := ⟨w.heap.size + 1, 0, none⟩) (show w5.heap.size ≠ w.heap.size + 1 from by omega) (.int .i64 RA)).setOther (a := ⟨w.heap.size + 1, 1, none⟩) (show w5.heap.size ≠ w.heap.size + 1 from by omega) (.slice b10 n10 c10)
          have hk1t := (hk1s.setOther (a := ⟨w.heap.size + 1, 0, none⟩) (show yb ≠ w.heap.size + 1 from by omega) (.int .i64 RA)).setOther (a := ⟨w.heap.size + 1, 1, none⟩) (show yb ≠ w.heap.size + 1 from by omega) (.slice b10 n10 c10)
          refine rd1 3 (fun K hK => ?_)
          go_simp
          refine hK.out _ _ ?_ (fun hHeld => ?_)
          focus ((try dsimp only); (exact ⟨by rw [hk0t.cell]; rfl, by rw [hk0t.cell]; rfl, by rw [hk1t.cell]; rfl, by rw [hk1t.cell]; rfl⟩))
          clear hK K
          try simp only [Act.put, pa, pb, pc]
          clear d0 d1 df0 df1
          refine wpAnyH_done (by kernel_rfl) ?_ _
          have hRz := (((hR14.set_ 0 (.int .i64 a)).set_ 1 (.slice b5 lx.length c5)).setOther (a := ⟨w.heap.size + 1, 0, none⟩) (show w.heap.size ≠ w.heap.size + 1 from by omega) (.int .i64 RA)).setOther (a := ⟨w.heap.size + 1, 1, none⟩) (show w.heap.size ≠ w.heap.size + 1 from by omega) (.slice b10 n10 c10)
          have hTz := (hTs.set_ 0 (.int .i64 RA)).set_ 1 (.slice b10 n10 c10)
          have r0 : ((((w15.setCell ⟨w.heap.size, 0, none⟩ (.int .i64 a)).setCell ⟨w.heap.size, 1, none⟩ (.slice b5 lx.length c5)).setCell ⟨w.heap.size + 1, 0, none⟩ (.int .i64 RA)).setCell ⟨w.heap.size + 1, 1, none⟩ (.slice b10 n10 c10)).cell? ⟨w.heap.size, 0, none⟩ = some (.int .i64 a) := (by rw [hRz.cell]; rfl)
          have r1 : ((((w15.setCell ⟨w.heap.size, 0, none⟩ (.int .i64 a)).setCell ⟨w.heap.size, 1, none⟩ (.slice b5 lx.length c5)).setCell ⟨w.heap.size + 1, 0, none⟩ (.int .i64 RA)).setCell ⟨w.heap.size + 1, 1, none⟩ (.slice b10 n10 c10)).cell? ⟨w.heap.size, 1, none⟩ = some (.slice b5 lx.length c5) := (by rw [hRz.cell]; rfl)
          have t0 : ((((w15.setCell ⟨w.heap.size, 0, none⟩ (.int .i64 a)).setCell ⟨w.heap.size, 1, none⟩ (.slice b5 lx.length c5)).setCell ⟨w.heap.size + 1, 0, none⟩ (.int .i64 RA)).setCell ⟨w.heap.size + 1, 1, none⟩ (.slice b10 n10 c10)).cell? ⟨w.heap.size + 1, 0, none⟩ = some (.int .i64 RA) := (by rw [hTz.cell]; rfl)
          have t1 : ((((w15.setCell ⟨w.heap.size, 0, none⟩ (.int .i64 a)).setCell ⟨w.heap.size, 1, none⟩ (.slice b5 lx.length c5)).setCell ⟨w.heap.size + 1, 0, none⟩ (.int .i64 RA)).setCell ⟨w.heap.size + 1, 1, none⟩ (.slice b10 n10 c10)).cell? ⟨w.heap.size + 1, 1, none⟩ = some (.slice b10 n10 c10) := (by rw [hTz.cell]; rfl)
          go_wp2
          refine bodyPost_ret (v := .tuple #[.agg #[.int .i64 a, .slice b5 lx.length c5], .agg #[.int .i64 RA, .slice b10 n10 c10]]) (by simp [results, Try.results22, go_sem, r0, r1, t0, t1]) rfl ⟨a, .slice b5 lx.length c5, lx, RA, .slice b10 n10 c10, RW, rfl, ?_, by omega, ?_, by omega, ?_⟩
          · have hne : ∀ k, (.slice b5 lx.length c5 : Value).ownBlock = some k → k ≠ w.heap.size := fun k hk => by have := HNB.out k hk; omega
            have hne1 : ∀ k, (.slice b5 lx.length c5 : Value).ownBlock = some k → k ≠ w.heap.size + 1 := fun k hk => by have := HNB.out k hk; omega
            exact ((((hN14.setCell (a := ⟨w.heap.size, 0, none⟩) hne _).setCell (a := ⟨w.heap.size, 1, none⟩) hne _).setCell (a := ⟨w.heap.size + 1, 0, none⟩) hne1 _).setCell (a := ⟨w.heap.size + 1, 1, none⟩) hne1 _).low (by omega)
          · have hne : ∀ k, (.slice b10 n10 c10 : Value).ownBlock = some k → k ≠ w.heap.size := fun k hk => by have := HMB.out k hk; omega
            have hne1 : ∀ k, (.slice b10 n10 c10 : Value).ownBlock = some k → k ≠ w.heap.size + 1 := fun k hk => by have := HMB.out k hk; omega
            exact ((((hM14.setCell (a := ⟨w.heap.size, 0, none⟩) hne _).setCell (a := ⟨w.heap.size, 1, none⟩) hne _).setCell (a := ⟨w.heap.size + 1, 0, none⟩) hne1 _).setCell (a := ⟨w.heap.size + 1, 1, none⟩) hne1 _).low (by omega)
          · exact (((hw14.setCell (Nat.le_refl _) _).setCell (Nat.le_refl _) _).setCell (Nat.le_succ _) _).setCell (Nat.le_succ _) _
        · have hb11 : Below w9.heap.size w9 (w9.alloc (.cells #[.int .i64 0, .slice none 0 0] 28)) := below_alloc (Below.refl _ _) _
          have hZ11 := blkA w9 #[.int .i64 0, .slice none 0 0] 28
          have hTl11 := hT9.lt
          have hYl11 := hY9.lt
          have hXl11 := hX9.lt
          go_simp
          have hX11 := hX9.next hb11
          have hY11 := hY9.next hb11
          have hR11 := hR9.next hb11
          have hT11 := hT9.next hb11
          have hO11 := hO9.next hb11
          have hN11 := hN9.next hb11
          have hw11 := below_next hw9 hb11
          refine hK.out _ _ ?_ (fun hHeld => ?_)
          focus ((try dsimp only); (exact ⟨by rw [hX11.cell]; rfl, by rw [hX11.cell]; rfl, by rw [hY11.cell]; rfl, by rw [hY11.cell]; rfl⟩))
          clear hK K
          try simp only [Act.put, pa, pb, pc]
          obtain ⟨yb, HYb⟩ : ∃ yb, Hid (w9.heap.size = yb) := ⟨_, Lib.hid rfl⟩
          have hyb1 : w.heap.size + 1 < yb := by have := HYb.out; omega
          have hyb2 : w5.heap.size < yb := by have := HYb.out; omega
          have hyb4 : w2.heap.size < yb := by have := HYb.out; omega
          rw [HYb.out] at hZ11
          try rw [HYb.out]
          obtain ⟨w11, HW11⟩ : ∃ w11, Hid ((w9.alloc (.cells #[.int .i64 0, .slice none 0 0] 28)) = w11) := ⟨_, Lib.hid rfl⟩
          rw [HW11.out] at hHeld hX11 hY11 hR11 hT11 hZ11 hO11 hN11 hw11
          rw [HW11.out]
          refine rd1 8 (fun K hK => ?_)
          go_simp
          go_at_call 47; refine (specWorkPutO hO11 hN11 hf hfx hx (by omega) (by omega)).mono ?_; rw [HRR.out.1, HRR.out.2.1, HRR.out.2.2]; rintro e w10 ⟨v10, rfl, hM10, hb10⟩; have hX10 := hX11.next hb10; have hY10 := hY11.next hb10; have hR10 := hR11.next hb10; have hT10 := hT11.next hb10; have hZ10 := hZ11.next hb10; have hN10 := hN11.next hb10; have hw10 := below_next hw11 hb10; have hs9 := hw11.size; have hTl9 := hT11.lt; have hYl9 := hY11.lt; have hZl9 := hZ11.lt; have HMB : Hid (∀ k, v10.ownBlock = some k → w.heap.size + 1 < k) := (fun k hk => by have := (hM10.block_lt hk).1; omega); have HMX : Hid (∀ k, v10.ownBlock = some k → k < w10.heap.size) := (fun k hk => (hM10.block_lt hk).2); have HMN : Hid (∀ k, v10.ownBlock = some k → k ≠ yb) := (fun k hk => by have := (hM10.block_lt hk).1; omega); have hM10 := hM10.low hs9; obtain ⟨b10, n10, c10, rfl⟩ := hM10.slice
          go_wp2_with fail
          refine hK.out _ _ ?_ (fun hHeld => ?_)
          focus ((try dsimp only); (exact ⟨by rw [hX10.cell]; rfl, by rw [hX10.cell]; rfl, by rw [hY10.cell]; rfl, by rw [hY10.cell]; rfl⟩))
          clear hK K
          try simp only [Act.put, pa, pb, pc]
          (refine tk 9 ?_; try simp only [Act.put, pa, pb, pc])
          (refine tk 10 ?_; try simp only [Act.put, pa, pb, pc])
          (refine tk 11 ?_; try simp only [Act.put, pa, pb, pc])
          have d0 : w10.cell? ⟨yb, 0, none⟩ = some (.int .i64 0) := (by rw [hZ10.cell]; rfl)
          have d1 : w10.cell? ⟨yb, 1, none⟩ = some (.slice none 0 0) := (by rw [hZ10.cell]; rfl)
          have df0 := hZ10.free 0
          have df1 := hZ10.free 1
          have hX12 := (hX10.setOther (a := ⟨yb, 0, none⟩) (show w2.heap.size ≠ yb from by omega) (.int .i64 RA)).setOther (a := ⟨yb, 1, none⟩) (show w2.heap.size ≠ yb from by omega) (.slice b10 n10 c10)
          have hY12 := (hY10.setOther (a := ⟨yb, 0, none⟩) (show w5.heap.size ≠ yb from by omega) (.int .i64 RA)).setOther (a := ⟨yb, 1, none⟩) (show w5.heap.size ≠ yb from by omega) (.slice b10 n10 c10)
          have hR12 := (hR10.setOther (a := ⟨yb, 0, none⟩) (show w.heap.size ≠ yb from by omega) (.int .i64 RA)).setOther (a := ⟨yb, 1, none⟩) (show w.heap.size ≠ yb from by omega) (.slice b10 n10 c10)
          have hT12 := (hT10.setOther (a := ⟨yb, 0, none⟩) (show w.heap.size + 1 ≠ yb from by omega) (.int .i64 RA)).setOther (a := ⟨yb, 1, none⟩) (show w.heap.size + 1 ≠ yb from by omega) (.slice b10 n10 c10)
          have hZ12 := (hZ10.set_ 0 (.int .i64 RA)).set_ 1 (.slice b10 n10 c10)
          have hw12 : Below w.heap.size w ((w10.setCell ⟨yb, 0, none⟩ (.int .i64 RA)).setCell ⟨yb, 1, none⟩ (.slice b10 n10 c10)) := (hw10.setCell (show w.heap.size ≤ yb from by omega) _).setCell (show w.heap.size ≤ yb from by omega) _
          have hnv : ∀ k, (.slice b5 lx.length c5 : Value).ownBlock = some k → k ≠ yb := fun k hk => by have := HNX.out k hk; omega
          have hny : ∀ k, (.slice b10 n10 c10 : Value).ownBlock = some k → k ≠ yb := HMN.out
          have hN12 := (hN10.setCell (a := ⟨yb, 0, none⟩) hnv (.int .i64 RA)).setCell (a := ⟨yb, 1, none⟩) hnv (.slice b10 n10 c10)
          have hM12 := (hM10.setCell (a := ⟨yb, 0, none⟩) hny (.int .i64 RA)).setCell (a := ⟨yb, 1, none⟩) hny (.slice b10 n10 c10)
          clear hnv hny
          refine rd1 13 (fun K hK => ?_)
          go_simp
          refine hK.out _ _ ?_ (fun hHeld => ?_)
          focus ((try dsimp only); (exact ⟨by rw [hX12.cell]; rfl, by rw [hX12.cell]; rfl, by rw [hY12.cell]; rfl, by rw [hY12.cell]; rfl⟩))
          clear hK K
          try simp only [Act.put, pa, pb, pc]
          clear d0 d1 df0 df1
          (refine tk 14 ?_; try simp only [Act.put, pa, pb, pc])
          refine wpAnyH_done (by kernel_rfl) ?_ _
          obtain ⟨w13, HW13⟩ : ∃ w13, Hid (((w10.setCell ⟨yb, 0, none⟩ (.int .i64 RA)).setCell ⟨yb, 1, none⟩ (.slice b10 n10 c10)) = w13) := ⟨_, Lib.hid rfl⟩
          rw [HW13.out] at hX12 hY12 hR12 hT12 hZ12 hw12 hN12 hM12
          try rw [HW13.out]
          have hZ12 : Blk w13 yb 28 #[.int .i64 RA, .slice b10 n10 c10] := hZ12
          go_wp2
          have hY14 := hY12.next (Below.refl _ w13).drew
          have hR14 := hR12.next (Below.refl _ w13).drew
          have hT14 := hT12.next (Below.refl _ w13).drew
          have hZ14 := hZ12.next (Below.refl _ w13).drew
          have hN14 := hN12.next (Below.refl _ w13).drew
          have hM14 := hM12.next (Below.refl _ w13).drew
          have hw14 := hw12.drew
          refine wp_region_held_drew (S := (fun W => W.cell? ⟨w5.heap.size, 0, none⟩ = some (.int .i64 a) ∧ W.cell? ⟨w5.heap.size, 1, none⟩ = some (.slice b5 lx.length c5) ∧ W.cell? ⟨yb, 0, none⟩ = some (.int .i64 RA) ∧ W.cell? ⟨yb, 1, none⟩ = some (.slice b10 n10 c10))) (by kernel_rfl) ?_ (fun hHeld => ?_)
          focus ((try dsimp only); (exact ⟨by rw [hY14.cell]; rfl, by rw [hY14.cell]; rfl, by rw [hZ14.cell]; rfl, by rw [hZ14.cell]; rfl⟩))
          obtain ⟨w15, HW15⟩ : ∃ w15, Hid (w13.drew = w15) := ⟨_, Lib.hid rfl⟩
          rw [HW15.out] at hHeld hY14 hR14 hT14 hZ14 hN14 hM14 hw14
          rw [HW15.out]
          (refine tk 0 ?_; try simp only [Act.put, pa, pb, pc])
          (refine tk 1 ?_; try simp only [Act.put, pa, pb, pc])
          have d0 : w15.cell? ⟨w.heap.size, 0, none⟩ = some (.int .i64 0) := (by rw [hR14.cell]; rfl)
          have d1 : w15.cell? ⟨w.heap.size, 1, none⟩ = some (.slice none 0 0) := (by rw [hR14.cell]; rfl)
          have df0 := hR14.free 0
          have df1 := hR14.free 1
          have hTs := (hT14.setOther (a := ⟨w.heap.size, 0, none⟩) (show w.heap.size + 1 ≠ w.heap.size from by omega) (.int .i64 a)).setOther (a := ⟨w.heap.size, 1, none⟩) (show w.heap.size + 1 ≠ w.heap.size from by omega) (.slice b5 lx.length c5)
          have hk0s := (hY14.setOther (a := ⟨w.heap.size, 0, none⟩) (show w5.heap.size ≠ w.heap.size from by omega) (.int .i64 a)).setOther (a := ⟨w.heap.size, 1, none⟩) (show w5.heap.size ≠ w.heap.size from by omega) (.slice b5 lx.length c5)
          have hk1s := (hZ14.setOther (a := ⟨w.heap.size, 0, none⟩) (show yb ≠ w.heap.size from by omega) (.int .i64 a)).setOther (a := ⟨w.heap.size, 1, none⟩) (show yb ≠ w.heap.size from by omega) (.slice b5 lx.length c5)
          refine rd1 2 (fun K hK => ?_)
          go_simp
          refine hK.out _ _ ?_ (fun hHeld => ?_)
          focus ((try dsimp only); (exact ⟨by rw [hk0s.cell]; rfl, by rw [hk0s.cell]; rfl, by rw [hk1s.cell]; rfl, by rw [hk1s.cell]; rfl⟩))
          clear hK K
          try simp only [Act.put, pa, pb, pc]
          clear d0 d1 df0 df1
          have d0 : ((w15.setCell ⟨w.heap.size, 0, none⟩ (.int .i64 a)).setCell ⟨w.heap.size, 1, none⟩ (.slice b5 lx.length c5)).cell? ⟨w.heap.size + 1, 0, none⟩ = some (.int .i64 0) := (by rw [hTs.cell]; rfl)
          have d1 : ((w15.setCell ⟨w.heap.size, 0, none⟩ (.int .i64 a)).setCell ⟨w.heap.size, 1, none⟩ (.slice b5 lx.length c5)).cell? ⟨w.heap.size + 1, 1, none⟩ = some (.slice none 0 0) := (by rw [hTs.cell]; rfl)
          have df0 := hTs.free 0
          have df1 := hTs.free 1
          have hk0t := (hk0s.setOther (a := ⟨w.heap.size + 1, 0, none⟩) (show w5.heap.size ≠ w.heap.size + 1 from by omega) (.int .i64 RA)).setOther (a := ⟨w.heap.size + 1, 1, none⟩) (show w5.heap.size ≠ w.heap.size + 1 from by omega) (.slice b10 n10 c10)
          have hk1t := (hk1s.setOther (a := ⟨w.heap.size + 1, 0, none⟩) (show yb ≠ w.heap.size + 1 from by omega) (.int .i64 RA)).setOther (a := ⟨w.heap.size + 1, 1, none⟩) (show yb ≠ w.heap.size + 1 from by omega) (.slice b10 n10 c10)
          refine rd1 3 (fun K hK => ?_)
          go_simp
          refine hK.out _ _ ?_ (fun hHeld => ?_)
          focus ((try dsimp only); (exact ⟨by rw [hk0t.cell]; rfl, by rw [hk0t.cell]; rfl, by rw [hk1t.cell]; rfl, by rw [hk1t.cell]; rfl⟩))
          clear hK K
          try simp only [Act.put, pa, pb, pc]
          clear d0 d1 df0 df1
          refine wpAnyH_done (by kernel_rfl) ?_ _
          have hRz := (((hR14.set_ 0 (.int .i64 a)).set_ 1 (.slice b5 lx.length c5)).setOther (a := ⟨w.heap.size + 1, 0, none⟩) (show w.heap.size ≠ w.heap.size + 1 from by omega) (.int .i64 RA)).setOther (a := ⟨w.heap.size + 1, 1, none⟩) (show w.heap.size ≠ w.heap.size + 1 from by omega) (.slice b10 n10 c10)
          have hTz := (hTs.set_ 0 (.int .i64 RA)).set_ 1 (.slice b10 n10 c10)
          have r0 : ((((w15.setCell ⟨w.heap.size, 0, none⟩ (.int .i64 a)).setCell ⟨w.heap.size, 1, none⟩ (.slice b5 lx.length c5)).setCell ⟨w.heap.size + 1, 0, none⟩ (.int .i64 RA)).setCell ⟨w.heap.size + 1, 1, none⟩ (.slice b10 n10 c10)).cell? ⟨w.heap.size, 0, none⟩ = some (.int .i64 a) := (by rw [hRz.cell]; rfl)
          have r1 : ((((w15.setCell ⟨w.heap.size, 0, none⟩ (.int .i64 a)).setCell ⟨w.heap.size, 1, none⟩ (.slice b5 lx.length c5)).setCell ⟨w.heap.size + 1, 0, none⟩ (.int .i64 RA)).setCell ⟨w.heap.size + 1, 1, none⟩ (.slice b10 n10 c10)).cell? ⟨w.heap.size, 1, none⟩ = some (.slice b5 lx.length c5) := (by rw [hRz.cell]; rfl)
          have t0 : ((((w15.setCell ⟨w.heap.size, 0, none⟩ (.int .i64 a)).setCell ⟨w.heap.size, 1, none⟩ (.slice b5 lx.length c5)).setCell ⟨w.heap.size + 1, 0, none⟩ (.int .i64 RA)).setCell ⟨w.heap.size + 1, 1, none⟩ (.slice b10 n10 c10)).cell? ⟨w.heap.size + 1, 0, none⟩ = some (.int .i64 RA) := (by rw [hTz.cell]; rfl)
          have t1 : ((((w15.setCell ⟨w.heap.size, 0, none⟩ (.int .i64 a)).setCell ⟨w.heap.size, 1, none⟩ (.slice b5 lx.length c5)).setCell ⟨w.heap.size + 1, 0, none⟩ (.int .i64 RA)).setCell ⟨w.heap.size + 1, 1, none⟩ (.slice b10 n10 c10)).cell? ⟨w.heap.size + 1, 1, none⟩ = some (.slice b10 n10 c10) := (by rw [hTz.cell]; rfl)
          go_wp2
          refine bodyPost_ret (v := .tuple #[.agg #[.int .i64 a, .slice b5 lx.length c5], .agg #[.int .i64 RA, .slice b10 n10 c10]]) (by simp [results, Try.results22, go_sem, r0, r1, t0, t1]) rfl ⟨a, .slice b5 lx.length c5, lx, RA, .slice b10 n10 c10, RW, rfl, ?_, by omega, ?_, by omega, ?_⟩
          · have hne : ∀ k, (.slice b5 lx.length c5 : Value).ownBlock = some k → k ≠ w.heap.size := fun k hk => by have := HNB.out k hk; omega
            have hne1 : ∀ k, (.slice b5 lx.length c5 : Value).ownBlock = some k → k ≠ w.heap.size + 1 := fun k hk => by have := HNB.out k hk; omega
            exact ((((hN14.setCell (a := ⟨w.heap.size, 0, none⟩) hne _).setCell (a := ⟨w.heap.size, 1, none⟩) hne _).setCell (a := ⟨w.heap.size + 1, 0, none⟩) hne1 _).setCell (a := ⟨w.heap.size + 1, 1, none⟩) hne1 _).low (by omega)
          · have hne : ∀ k, (.slice b10 n10 c10 : Value).ownBlock = some k → k ≠ w.heap.size := fun k hk => by have := HMB.out k hk; omega
            have hne1 : ∀ k, (.slice b10 n10 c10 : Value).ownBlock = some k → k ≠ w.heap.size + 1 := fun k hk => by have := HMB.out k hk; omega
            exact ((((hM14.setCell (a := ⟨w.heap.size, 0, none⟩) hne _).setCell (a := ⟨w.heap.size, 1, none⟩) hne _).setCell (a := ⟨w.heap.size + 1, 0, none⟩) hne1 _).setCell (a := ⟨w.heap.size + 1, 1, none⟩) hne1 _).low (by omega)
          · exact (((hw14.setCell (Nat.le_refl _) _).setCell (Nat.le_refl _) _).setCell (Nat.le_succ _) _).setCell (Nat.le_succ _) _
      · have hb11 : Below w8.heap.size w8 (w8.alloc (.cells #[.int .i64 0, .slice none 0 0] 28)) := below_alloc (Below.refl _ _) _
        have hZ11 := blkA w8 #[.int .i64 0, .slice none 0 0] 28
        have hTl11 := hT8.lt
        have hYl11 := hY8.lt
        have hXl11 := hX8.lt
        have hgl11 := hq8.lt
        go_simp
        have hX11 := hX8.next hb11
        have hY11 := hY8.next hb11
        have hR11 := hR8.next hb11
        have hT11 := hT8.next hb11
        have hO11 := hO8.next hb11
        have hN11 := hN8.next hb11
        have hq11 := hq8.next hb11
        have hw11 := below_next hw8 hb11
        have hA8 := hA8.next hb11
        refine hK.out _ _ ?_ (fun hHeld => ?_)
        focus ((try dsimp only); (exact ⟨by rw [hX11.cell]; rfl, by rw [hX11.cell]; rfl, by rw [hY11.cell]; rfl, by rw [hY11.cell]; rfl⟩))
        clear hK K
        try simp only [Act.put, pa, pb, pc]
        obtain ⟨yb, HYb⟩ : ∃ yb, Hid (w8.heap.size = yb) := ⟨_, Lib.hid rfl⟩
        have hyb1 : w.heap.size + 1 < yb := by have := HYb.out; omega
        have hyb2 : w5.heap.size < yb := by have := HYb.out; omega
        have hyb4 : w2.heap.size < yb := by have := HYb.out; omega
        have hyb3 : g < yb := by have := HYb.out; omega
        rw [HYb.out] at hZ11
        try rw [HYb.out]
        obtain ⟨w11, HW11⟩ : ∃ w11, Hid ((w8.alloc (.cells #[.int .i64 0, .slice none 0 0] 28)) = w11) := ⟨_, Lib.hid rfl⟩
        rw [HW11.out] at hHeld hX11 hY11 hR11 hT11 hZ11 hO11 hN11 hw11 hq11 hA8
        rw [HW11.out]
        refine rd1 7 (fun K hK => ?_)
        go_simp
        go_at_call 48; refine (write3_d g A m c q7 A8 c8 al _ hq11 (by omega) hfr (by omega) _ hl8 hA8).mono ?_; rintro e w9 ⟨x, rfl, hx, hd9⟩; have hX9 := hX11.drawn (by omega) hd9.grown; have hY9 := hY11.drawn (by omega) hd9.grown; have hR9 := hR11.drawn (by omega) hd9.grown; have hT9 := hT11.drawn (by omega) hd9.grown; have hZ9 := hZ11.drawn (by omega) hd9.grown; have hO9 := hO11.drawn (show g < g + 1 from Nat.lt_succ_self g) hd9.grown; have hN9 := hN11.drawn (show g < g + 1 from Nat.lt_succ_self g) hd9.grown; have hw9 : Below w.heap.size w w9 := hw11.grown hd9.grown hw11.size (fun k hk => by have := Option.some.inj hk; omega); have hpl := wputW_13 z l a lx x (by omega); obtain ⟨RA, RW, RC, HRR⟩ : ∃ RA RW RC, Hid (wputA z l a lx = RA ∧ wputW z l a lx x = RW ∧ wputC z l a lx x = RC) := ⟨_, _, _, Lib.hid ⟨rfl, rfl, rfl⟩⟩; rw [HRR.out.2.1] at hpl
        go_wp2_with fail
        refine hK.out _ _ ?_ (fun hHeld => ?_)
        focus ((try dsimp only); (exact ⟨by rw [hX9.cell]; rfl, by rw [hX9.cell]; rfl, by rw [hY9.cell]; rfl, by rw [hY9.cell]; rfl⟩))
        clear hK K
        try simp only [Act.put, pa, pb, pc]
        refine rd1 8 (fun K hK => ?_)
        go_simp
        go_at_call 47; refine (specWorkPutO hO9 hN9 hf hfx hx (by omega) (by omega)).mono ?_; rw [HRR.out.1, HRR.out.2.1, HRR.out.2.2]; rintro e w10 ⟨v10, rfl, hM10, hb10⟩; have hX10 := hX9.next hb10; have hY10 := hY9.next hb10; have hR10 := hR9.next hb10; have hT10 := hT9.next hb10; have hZ10 := hZ9.next hb10; have hN10 := hN9.next hb10; have hw10 := below_next hw9 hb10; have hs9 := hw9.size; have hTl9 := hT9.lt; have hYl9 := hY9.lt; have hZl9 := hZ9.lt; have HMB : Hid (∀ k, v10.ownBlock = some k → w.heap.size + 1 < k) := (fun k hk => by have := (hM10.block_lt hk).1; omega); have HMX : Hid (∀ k, v10.ownBlock = some k → k < w10.heap.size) := (fun k hk => (hM10.block_lt hk).2); have HMN : Hid (∀ k, v10.ownBlock = some k → k ≠ yb) := (fun k hk => by have := (hM10.block_lt hk).1; omega); have hM10 := hM10.low hs9; obtain ⟨b10, n10, c10, rfl⟩ := hM10.slice
        go_wp2_with fail
        refine hK.out _ _ ?_ (fun hHeld => ?_)
        focus ((try dsimp only); (exact ⟨by rw [hX10.cell]; rfl, by rw [hX10.cell]; rfl, by rw [hY10.cell]; rfl, by rw [hY10.cell]; rfl⟩))
        clear hK K
        try simp only [Act.put, pa, pb, pc]
        (refine tk 9 ?_; try simp only [Act.put, pa, pb, pc])
        (refine tk 10 ?_; try simp only [Act.put, pa, pb, pc])
        (refine tk 11 ?_; try simp only [Act.put, pa, pb, pc])
        have d0 : w10.cell? ⟨yb, 0, none⟩ = some (.int .i64 0) := (by rw [hZ10.cell]; rfl)
        have d1 : w10.cell? ⟨yb, 1, none⟩ = some (.slice none 0 0) := (by rw [hZ10.cell]; rfl)
        have df0 := hZ10.free 0
        have df1 := hZ10.free 1
        have hX12 := (hX10.setOther (a := ⟨yb, 0, none⟩) (show w2.heap.size ≠ yb from by omega) (.int .i64 RA)).setOther (a := ⟨yb, 1, none⟩) (show w2.heap.size ≠ yb from by omega) (.slice b10 n10 c10)
        have hY12 := (hY10.setOther (a := ⟨yb, 0, none⟩) (show w5.heap.size ≠ yb from by omega) (.int .i64 RA)).setOther (a := ⟨yb, 1, none⟩) (show w5.heap.size ≠ yb from by omega) (.slice b10 n10 c10)
        have hR12 := (hR10.setOther (a := ⟨yb, 0, none⟩) (show w.heap.size ≠ yb from by omega) (.int .i64 RA)).setOther (a := ⟨yb, 1, none⟩) (show w.heap.size ≠ yb from by omega) (.slice b10 n10 c10)
        have hT12 := (hT10.setOther (a := ⟨yb, 0, none⟩) (show w.heap.size + 1 ≠ yb from by omega) (.int .i64 RA)).setOther (a := ⟨yb, 1, none⟩) (show w.heap.size + 1 ≠ yb from by omega) (.slice b10 n10 c10)
        have hZ12 := (hZ10.set_ 0 (.int .i64 RA)).set_ 1 (.slice b10 n10 c10)
        have hw12 : Below w.heap.size w ((w10.setCell ⟨yb, 0, none⟩ (.int .i64 RA)).setCell ⟨yb, 1, none⟩ (.slice b10 n10 c10)) := (hw10.setCell (show w.heap.size ≤ yb from by omega) _).setCell (show w.heap.size ≤ yb from by omega) _
        have hnv : ∀ k, (.slice b5 lx.length c5 : Value).ownBlock = some k → k ≠ yb := fun k hk => by have := HNX.out k hk; omega
        have hny : ∀ k, (.slice b10 n10 c10 : Value).ownBlock = some k → k ≠ yb := HMN.out
        have hN12 := (hN10.setCell (a := ⟨yb, 0, none⟩) hnv (.int .i64 RA)).setCell (a := ⟨yb, 1, none⟩) hnv (.slice b10 n10 c10)
        have hM12 := (hM10.setCell (a := ⟨yb, 0, none⟩) hny (.int .i64 RA)).setCell (a := ⟨yb, 1, none⟩) hny (.slice b10 n10 c10)
        clear hnv hny
        refine rd1 13 (fun K hK => ?_)
        go_simp
        refine hK.out _ _ ?_ (fun hHeld => ?_)
        focus ((try dsimp only); (exact ⟨by rw [hX12.cell]; rfl, by rw [hX12.cell]; rfl, by rw [hY12.cell]; rfl, by rw [hY12.cell]; rfl⟩))
        clear hK K
        try simp only [Act.put, pa, pb, pc]
        clear d0 d1 df0 df1
        (refine tk 14 ?_; try simp only [Act.put, pa, pb, pc])
        refine wpAnyH_done (by kernel_rfl) ?_ _
        obtain ⟨w13, HW13⟩ : ∃ w13, Hid (((w10.setCell ⟨yb, 0, none⟩ (.int .i64 RA)).setCell ⟨yb, 1, none⟩ (.slice b10 n10 c10)) = w13) := ⟨_, Lib.hid rfl⟩
        rw [HW13.out] at hX12 hY12 hR12 hT12 hZ12 hw12 hN12 hM12
        try rw [HW13.out]
        have hZ12 : Blk w13 yb 28 #[.int .i64 RA, .slice b10 n10 c10] := hZ12
        go_wp2
        have hY14 := hY12.next (Below.refl _ w13).drew
        have hR14 := hR12.next (Below.refl _ w13).drew
        have hT14 := hT12.next (Below.refl _ w13).drew
        have hZ14 := hZ12.next (Below.refl _ w13).drew
        have hN14 := hN12.next (Below.refl _ w13).drew
        have hM14 := hM12.next (Below.refl _ w13).drew
        have hw14 := hw12.drew
        refine wp_region_held_drew (S := (fun W => W.cell? ⟨w5.heap.size, 0, none⟩ = some (.int .i64 a) ∧ W.cell? ⟨w5.heap.size, 1, none⟩ = some (.slice b5 lx.length c5) ∧ W.cell? ⟨yb, 0, none⟩ = some (.int .i64 RA) ∧ W.cell? ⟨yb, 1, none⟩ = some (.slice b10 n10 c10))) (by kernel_rfl) ?_ (fun hHeld => ?_)
        focus ((try dsimp only); (exact ⟨by rw [hY14.cell]; rfl, by rw [hY14.cell]; rfl, by rw [hZ14.cell]; rfl, by rw [hZ14.cell]; rfl⟩))
        obtain ⟨w15, HW15⟩ : ∃ w15, Hid (w13.drew = w15) := ⟨_, Lib.hid rfl⟩
        rw [HW15.out] at hHeld hY14 hR14 hT14 hZ14 hN14 hM14 hw14
        rw [HW15.out]
        (refine tk 0 ?_; try simp only [Act.put, pa, pb, pc])
        (refine tk 1 ?_; try simp only [Act.put, pa, pb, pc])
        have d0 : w15.cell? ⟨w.heap.size, 0, none⟩ = some (.int .i64 0) := (by rw [hR14.cell]; rfl)
        have d1 : w15.cell? ⟨w.heap.size, 1, none⟩ = some (.slice none 0 0) := (by rw [hR14.cell]; rfl)
        have df0 := hR14.free 0
        have df1 := hR14.free 1
        have hTs := (hT14.setOther (a := ⟨w.heap.size, 0, none⟩) (show w.heap.size + 1 ≠ w.heap.size from by omega) (.int .i64 a)).setOther (a := ⟨w.heap.size, 1, none⟩) (show w.heap.size + 1 ≠ w.heap.size from by omega) (.slice b5 lx.length c5)
        have hk0s := (hY14.setOther (a := ⟨w.heap.size, 0, none⟩) (show w5.heap.size ≠ w.heap.size from by omega) (.int .i64 a)).setOther (a := ⟨w.heap.size, 1, none⟩) (show w5.heap.size ≠ w.heap.size from by omega) (.slice b5 lx.length c5)
        have hk1s := (hZ14.setOther (a := ⟨w.heap.size, 0, none⟩) (show yb ≠ w.heap.size from by omega) (.int .i64 a)).setOther (a := ⟨w.heap.size, 1, none⟩) (show yb ≠ w.heap.size from by omega) (.slice b5 lx.length c5)
        refine rd1 2 (fun K hK => ?_)
        go_simp
        refine hK.out _ _ ?_ (fun hHeld => ?_)
        focus ((try dsimp only); (exact ⟨by rw [hk0s.cell]; rfl, by rw [hk0s.cell]; rfl, by rw [hk1s.cell]; rfl, by rw [hk1s.cell]; rfl⟩))
        clear hK K
        try simp only [Act.put, pa, pb, pc]
        clear d0 d1 df0 df1
        have d0 : ((w15.setCell ⟨w.heap.size, 0, none⟩ (.int .i64 a)).setCell ⟨w.heap.size, 1, none⟩ (.slice b5 lx.length c5)).cell? ⟨w.heap.size + 1, 0, none⟩ = some (.int .i64 0) := (by rw [hTs.cell]; rfl)
        have d1 : ((w15.setCell ⟨w.heap.size, 0, none⟩ (.int .i64 a)).setCell ⟨w.heap.size, 1, none⟩ (.slice b5 lx.length c5)).cell? ⟨w.heap.size + 1, 1, none⟩ = some (.slice none 0 0) := (by rw [hTs.cell]; rfl)
        have df0 := hTs.free 0
        have df1 := hTs.free 1
        have hk0t := (hk0s.setOther (a := ⟨w.heap.size + 1, 0, none⟩) (show w5.heap.size ≠ w.heap.size + 1 from by omega) (.int .i64 RA)).setOther (a := ⟨w.heap.size + 1, 1, none⟩) (show w5.heap.size ≠ w.heap.size + 1 from by omega) (.slice b10 n10 c10)
        have hk1t := (hk1s.setOther (a := ⟨w.heap.size + 1, 0, none⟩) (show yb ≠ w.heap.size + 1 from by omega) (.int .i64 RA)).setOther (a := ⟨w.heap.size + 1, 1, none⟩) (show yb ≠ w.heap.size + 1 from by omega) (.slice b10 n10 c10)
        refine rd1 3 (fun K hK => ?_)
        go_simp
        refine hK.out _ _ ?_ (fun hHeld => ?_)
        focus ((try dsimp only); (exact ⟨by rw [hk0t.cell]; rfl, by rw [hk0t.cell]; rfl, by rw [hk1t.cell]; rfl, by rw [hk1t.cell]; rfl⟩))
        clear hK K
        try simp only [Act.put, pa, pb, pc]
        clear d0 d1 df0 df1
        refine wpAnyH_done (by kernel_rfl) ?_ _
        have hRz := (((hR14.set_ 0 (.int .i64 a)).set_ 1 (.slice b5 lx.length c5)).setOther (a := ⟨w.heap.size + 1, 0, none⟩) (show w.heap.size ≠ w.heap.size + 1 from by omega) (.int .i64 RA)).setOther (a := ⟨w.heap.size + 1, 1, none⟩) (show w.heap.size ≠ w.heap.size + 1 from by omega) (.slice b10 n10 c10)
        have hTz := (hTs.set_ 0 (.int .i64 RA)).set_ 1 (.slice b10 n10 c10)
        have r0 : ((((w15.setCell ⟨w.heap.size, 0, none⟩ (.int .i64 a)).setCell ⟨w.heap.size, 1, none⟩ (.slice b5 lx.length c5)).setCell ⟨w.heap.size + 1, 0, none⟩ (.int .i64 RA)).setCell ⟨w.heap.size + 1, 1, none⟩ (.slice b10 n10 c10)).cell? ⟨w.heap.size, 0, none⟩ = some (.int .i64 a) := (by rw [hRz.cell]; rfl)
        have r1 : ((((w15.setCell ⟨w.heap.size, 0, none⟩ (.int .i64 a)).setCell ⟨w.heap.size, 1, none⟩ (.slice b5 lx.length c5)).setCell ⟨w.heap.size + 1, 0, none⟩ (.int .i64 RA)).setCell ⟨w.heap.size + 1, 1, none⟩ (.slice b10 n10 c10)).cell? ⟨w.heap.size, 1, none⟩ = some (.slice b5 lx.length c5) := (by rw [hRz.cell]; rfl)
        have t0 : ((((w15.setCell ⟨w.heap.size, 0, none⟩ (.int .i64 a)).setCell ⟨w.heap.size, 1, none⟩ (.slice b5 lx.length c5)).setCell ⟨w.heap.size + 1, 0, none⟩ (.int .i64 RA)).setCell ⟨w.heap.size + 1, 1, none⟩ (.slice b10 n10 c10)).cell? ⟨w.heap.size + 1, 0, none⟩ = some (.int .i64 RA) := (by rw [hTz.cell]; rfl)
        have t1 : ((((w15.setCell ⟨w.heap.size, 0, none⟩ (.int .i64 a)).setCell ⟨w.heap.size, 1, none⟩ (.slice b5 lx.length c5)).setCell ⟨w.heap.size + 1, 0, none⟩ (.int .i64 RA)).setCell ⟨w.heap.size + 1, 1, none⟩ (.slice b10 n10 c10)).cell? ⟨w.heap.size + 1, 1, none⟩ = some (.slice b10 n10 c10) := (by rw [hTz.cell]; rfl)
        go_wp2
        refine bodyPost_ret (v := .tuple #[.agg #[.int .i64 a, .slice b5 lx.length c5], .agg #[.int .i64 RA, .slice b10 n10 c10]]) (by simp [results, Try.results22, go_sem, r0, r1, t0, t1]) rfl ⟨a, .slice b5 lx.length c5, lx, RA, .slice b10 n10 c10, RW, rfl, ?_, by omega, ?_, by omega, ?_⟩
        · have hne : ∀ k, (.slice b5 lx.length c5 : Value).ownBlock = some k → k ≠ w.heap.size := fun k hk => by have := HNB.out k hk; omega
          have hne1 : ∀ k, (.slice b5 lx.length c5 : Value).ownBlock = some k → k ≠ w.heap.size + 1 := fun k hk => by have := HNB.out k hk; omega
          exact ((((hN14.setCell (a := ⟨w.heap.size, 0, none⟩) hne _).setCell (a := ⟨w.heap.size, 1, none⟩) hne _).setCell (a := ⟨w.heap.size + 1, 0, none⟩) hne1 _).setCell (a := ⟨w.heap.size + 1, 1, none⟩) hne1 _).low (by omega)
        · have hne : ∀ k, (.slice b10 n10 c10 : Value).ownBlock = some k → k ≠ w.heap.size := fun k hk => by have := HMB.out k hk; omega
          have hne1 : ∀ k, (.slice b10 n10 c10 : Value).ownBlock = some k → k ≠ w.heap.size + 1 := fun k hk => by have := HMB.out k hk; omega
          exact ((((hM14.setCell (a := ⟨w.heap.size, 0, none⟩) hne _).setCell (a := ⟨w.heap.size, 1, none⟩) hne _).setCell (a := ⟨w.heap.size + 1, 0, none⟩) hne1 _).setCell (a := ⟨w.heap.size + 1, 1, none⟩) hne1 _).low (by omega)
        · exact (((hw14.setCell (Nat.le_refl _) _).setCell (Nat.le_refl _) _).setCell (Nat.le_succ _) _).setCell (Nat.le_succ _) _
    · have hb11 : Below wd.heap.size wd (wd.alloc (.cells #[.int .i64 0, .slice none 0 0] 28)) := below_alloc (Below.refl _ _) _
      have hZ11 := blkA wd #[.int .i64 0, .slice none 0 0] 28
      have hTl11 := hTD.lt
      have hYl11 := hYD.lt
      have hXl11 := hXD.lt
      have hgl11 := hqD.lt
      go_simp
      have hX11 := hXD.next hb11
      have hY11 := hYD.next hb11
      have hR11 := hRD.next hb11
      have hT11 := hTD.next hb11
      have hO11 := hOD.next hb11
      have hN11 := hND.next hb11
      have hq11 := hqD.next hb11
      have hw11 := below_next hwD hb11
      refine hK.out _ _ ?_ (fun hHeld => ?_)
      focus ((try dsimp only); (exact ⟨by rw [hX11.cell]; rfl, by rw [hX11.cell]; rfl, by rw [hY11.cell]; rfl, by rw [hY11.cell]; rfl⟩))
      clear hK K
      try simp only [Act.put, pa, pb, pc]
      obtain ⟨yb, HYb⟩ : ∃ yb, Hid (wd.heap.size = yb) := ⟨_, Lib.hid rfl⟩
      have hyb1 : w.heap.size + 1 < yb := by have := HYb.out; omega
      have hyb2 : w5.heap.size < yb := by have := HYb.out; omega
      have hyb4 : w2.heap.size < yb := by have := HYb.out; omega
      have hyb3 : g < yb := by have := HYb.out; omega
      rw [HYb.out] at hZ11
      try rw [HYb.out]
      obtain ⟨w11, HW11⟩ : ∃ w11, Hid ((wd.alloc (.cells #[.int .i64 0, .slice none 0 0] 28)) = w11) := ⟨_, Lib.hid rfl⟩
      rw [HW11.out] at hHeld hX11 hY11 hR11 hT11 hZ11 hO11 hN11 hw11 hq11
      rw [HW11.out]
      refine rd1 6 (fun K hK => ?_)
      go_simp
      go_at_call 36; refine (specAt z b3 c3 l z _ hy1 (by omega) (hO11.rd'.2.2.2)).mono ?_; rw [HAL.out]; rintro e w8 ⟨v8, rfl, hA8, hb8⟩; have hX8 := hX11.next hb8; have hY8 := hY11.next hb8; have hR8 := hR11.next hb8; have hT8 := hT11.next hb8; have hZ8 := hZ11.next hb8; have hO8 := hO11.next hb8; have hN8 := hN11.next hb8; have hq8 := hq11.next hb8; have hw8 := below_next hw11 hb8; obtain ⟨A8, c8, rfl, hv1, hv2, hv3⟩ := hA8.read; clear hv1 hv2 hv3; have hl8 := hq11.lt
      go_wp2_with fail
      refine hK.out _ _ ?_ (fun hHeld => ?_)
      focus ((try dsimp only); (exact ⟨by rw [hX8.cell]; rfl, by rw [hX8.cell]; rfl, by rw [hY8.cell]; rfl, by rw [hY8.cell]; rfl⟩))
      clear hK K
      try simp only [Act.put, pa, pb, pc]
      refine rd1 7 (fun K hK => ?_)
      go_simp
      go_at_call 48; refine (write3_d g A m c q7 A8 c8 al _ hq8 (by omega) hfr (by omega) _ hl8 hA8).mono ?_; rintro e w9 ⟨x, rfl, hx, hd9⟩; have hX9 := hX8.drawn (by omega) hd9.grown; have hY9 := hY8.drawn (by omega) hd9.grown; have hR9 := hR8.drawn (by omega) hd9.grown; have hT9 := hT8.drawn (by omega) hd9.grown; have hZ9 := hZ8.drawn (by omega) hd9.grown; have hO9 := hO8.drawn (show g < g + 1 from Nat.lt_succ_self g) hd9.grown; have hN9 := hN8.drawn (show g < g + 1 from Nat.lt_succ_self g) hd9.grown; have hw9 : Below w.heap.size w w9 := hw8.grown hd9.grown hw8.size (fun k hk => by have := Option.some.inj hk; omega); have hpl := wputW_13 z l a lx x (by omega); obtain ⟨RA, RW, RC, HRR⟩ : ∃ RA RW RC, Hid (wputA z l a lx = RA ∧ wputW z l a lx x = RW ∧ wputC z l a lx x = RC) := ⟨_, _, _, Lib.hid ⟨rfl, rfl, rfl⟩⟩; rw [HRR.out.2.1] at hpl
      go_wp2_with fail
      refine hK.out _ _ ?_ (fun hHeld => ?_)
      focus ((try dsimp only); (exact ⟨by rw [hX9.cell]; rfl, by rw [hX9.cell]; rfl, by rw [hY9.cell]; rfl, by rw [hY9.cell]; rfl⟩))
      clear hK K
      try simp only [Act.put, pa, pb, pc]
      refine rd1 8 (fun K hK => ?_)
      go_simp
      go_at_call 47; refine (specWorkPutO hO9 hN9 hf hfx hx (by omega) (by omega)).mono ?_; rw [HRR.out.1, HRR.out.2.1, HRR.out.2.2]; rintro e w10 ⟨v10, rfl, hM10, hb10⟩; have hX10 := hX9.next hb10; have hY10 := hY9.next hb10; have hR10 := hR9.next hb10; have hT10 := hT9.next hb10; have hZ10 := hZ9.next hb10; have hN10 := hN9.next hb10; have hw10 := below_next hw9 hb10; have hs9 := hw9.size; have hTl9 := hT9.lt; have hYl9 := hY9.lt; have hZl9 := hZ9.lt; have HMB : Hid (∀ k, v10.ownBlock = some k → w.heap.size + 1 < k) := (fun k hk => by have := (hM10.block_lt hk).1; omega); have HMX : Hid (∀ k, v10.ownBlock = some k → k < w10.heap.size) := (fun k hk => (hM10.block_lt hk).2); have HMN : Hid (∀ k, v10.ownBlock = some k → k ≠ yb) := (fun k hk => by have := (hM10.block_lt hk).1; omega); have hM10 := hM10.low hs9; obtain ⟨b10, n10, c10, rfl⟩ := hM10.slice
      go_wp2_with fail
      refine hK.out _ _ ?_ (fun hHeld => ?_)
      focus ((try dsimp only); (exact ⟨by rw [hX10.cell]; rfl, by rw [hX10.cell]; rfl, by rw [hY10.cell]; rfl, by rw [hY10.cell]; rfl⟩))
      clear hK K
      try simp only [Act.put, pa, pb, pc]
      (refine tk 9 ?_; try simp only [Act.put, pa, pb, pc])
      (refine tk 10 ?_; try simp only [Act.put, pa, pb, pc])
      (refine tk 11 ?_; try simp only [Act.put, pa, pb, pc])
      have d0 : w10.cell? ⟨yb, 0, none⟩ = some (.int .i64 0) := (by rw [hZ10.cell]; rfl)
      have d1 : w10.cell? ⟨yb, 1, none⟩ = some (.slice none 0 0) := (by rw [hZ10.cell]; rfl)
      have df0 := hZ10.free 0
      have df1 := hZ10.free 1
      have hX12 := (hX10.setOther (a := ⟨yb, 0, none⟩) (show w2.heap.size ≠ yb from by omega) (.int .i64 RA)).setOther (a := ⟨yb, 1, none⟩) (show w2.heap.size ≠ yb from by omega) (.slice b10 n10 c10)
      have hY12 := (hY10.setOther (a := ⟨yb, 0, none⟩) (show w5.heap.size ≠ yb from by omega) (.int .i64 RA)).setOther (a := ⟨yb, 1, none⟩) (show w5.heap.size ≠ yb from by omega) (.slice b10 n10 c10)
      have hR12 := (hR10.setOther (a := ⟨yb, 0, none⟩) (show w.heap.size ≠ yb from by omega) (.int .i64 RA)).setOther (a := ⟨yb, 1, none⟩) (show w.heap.size ≠ yb from by omega) (.slice b10 n10 c10)
      have hT12 := (hT10.setOther (a := ⟨yb, 0, none⟩) (show w.heap.size + 1 ≠ yb from by omega) (.int .i64 RA)).setOther (a := ⟨yb, 1, none⟩) (show w.heap.size + 1 ≠ yb from by omega) (.slice b10 n10 c10)
      have hZ12 := (hZ10.set_ 0 (.int .i64 RA)).set_ 1 (.slice b10 n10 c10)
      have hw12 : Below w.heap.size w ((w10.setCell ⟨yb, 0, none⟩ (.int .i64 RA)).setCell ⟨yb, 1, none⟩ (.slice b10 n10 c10)) := (hw10.setCell (show w.heap.size ≤ yb from by omega) _).setCell (show w.heap.size ≤ yb from by omega) _
      have hnv : ∀ k, (.slice b5 lx.length c5 : Value).ownBlock = some k → k ≠ yb := fun k hk => by have := HNX.out k hk; omega
      have hny : ∀ k, (.slice b10 n10 c10 : Value).ownBlock = some k → k ≠ yb := HMN.out
      have hN12 := (hN10.setCell (a := ⟨yb, 0, none⟩) hnv (.int .i64 RA)).setCell (a := ⟨yb, 1, none⟩) hnv (.slice b10 n10 c10)
      have hM12 := (hM10.setCell (a := ⟨yb, 0, none⟩) hny (.int .i64 RA)).setCell (a := ⟨yb, 1, none⟩) hny (.slice b10 n10 c10)
      clear hnv hny
      refine rd1 13 (fun K hK => ?_)
      go_simp
      refine hK.out _ _ ?_ (fun hHeld => ?_)
      focus ((try dsimp only); (exact ⟨by rw [hX12.cell]; rfl, by rw [hX12.cell]; rfl, by rw [hY12.cell]; rfl, by rw [hY12.cell]; rfl⟩))
      clear hK K
      try simp only [Act.put, pa, pb, pc]
      clear d0 d1 df0 df1
      (refine tk 14 ?_; try simp only [Act.put, pa, pb, pc])
      refine wpAnyH_done (by kernel_rfl) ?_ _
      obtain ⟨w13, HW13⟩ : ∃ w13, Hid (((w10.setCell ⟨yb, 0, none⟩ (.int .i64 RA)).setCell ⟨yb, 1, none⟩ (.slice b10 n10 c10)) = w13) := ⟨_, Lib.hid rfl⟩
      rw [HW13.out] at hX12 hY12 hR12 hT12 hZ12 hw12 hN12 hM12
      try rw [HW13.out]
      have hZ12 : Blk w13 yb 28 #[.int .i64 RA, .slice b10 n10 c10] := hZ12
      go_wp2
      have hY14 := hY12.next (Below.refl _ w13).drew
      have hR14 := hR12.next (Below.refl _ w13).drew
      have hT14 := hT12.next (Below.refl _ w13).drew
      have hZ14 := hZ12.next (Below.refl _ w13).drew
      have hN14 := hN12.next (Below.refl _ w13).drew
      have hM14 := hM12.next (Below.refl _ w13).drew
      have hw14 := hw12.drew
      refine wp_region_held_drew (S := (fun W => W.cell? ⟨w5.heap.size, 0, none⟩ = some (.int .i64 a) ∧ W.cell? ⟨w5.heap.size, 1, none⟩ = some (.slice b5 lx.length c5) ∧ W.cell? ⟨yb, 0, none⟩ = some (.int .i64 RA) ∧ W.cell? ⟨yb, 1, none⟩ = some (.slice b10 n10 c10))) (by kernel_rfl) ?_ (fun hHeld => ?_)
      focus ((try dsimp only); (exact ⟨by rw [hY14.cell]; rfl, by rw [hY14.cell]; rfl, by rw [hZ14.cell]; rfl, by rw [hZ14.cell]; rfl⟩))
      obtain ⟨w15, HW15⟩ : ∃ w15, Hid (w13.drew = w15) := ⟨_, Lib.hid rfl⟩
      rw [HW15.out] at hHeld hY14 hR14 hT14 hZ14 hN14 hM14 hw14
      rw [HW15.out]
      (refine tk 0 ?_; try simp only [Act.put, pa, pb, pc])
      (refine tk 1 ?_; try simp only [Act.put, pa, pb, pc])
      have d0 : w15.cell? ⟨w.heap.size, 0, none⟩ = some (.int .i64 0) := (by rw [hR14.cell]; rfl)
      have d1 : w15.cell? ⟨w.heap.size, 1, none⟩ = some (.slice none 0 0) := (by rw [hR14.cell]; rfl)
      have df0 := hR14.free 0
      have df1 := hR14.free 1
      have hTs := (hT14.setOther (a := ⟨w.heap.size, 0, none⟩) (show w.heap.size + 1 ≠ w.heap.size from by omega) (.int .i64 a)).setOther (a := ⟨w.heap.size, 1, none⟩) (show w.heap.size + 1 ≠ w.heap.size from by omega) (.slice b5 lx.length c5)
      have hk0s := (hY14.setOther (a := ⟨w.heap.size, 0, none⟩) (show w5.heap.size ≠ w.heap.size from by omega) (.int .i64 a)).setOther (a := ⟨w.heap.size, 1, none⟩) (show w5.heap.size ≠ w.heap.size from by omega) (.slice b5 lx.length c5)
      have hk1s := (hZ14.setOther (a := ⟨w.heap.size, 0, none⟩) (show yb ≠ w.heap.size from by omega) (.int .i64 a)).setOther (a := ⟨w.heap.size, 1, none⟩) (show yb ≠ w.heap.size from by omega) (.slice b5 lx.length c5)
      refine rd1 2 (fun K hK => ?_)
      go_simp
      refine hK.out _ _ ?_ (fun hHeld => ?_)
      focus ((try dsimp only); (exact ⟨by rw [hk0s.cell]; rfl, by rw [hk0s.cell]; rfl, by rw [hk1s.cell]; rfl, by rw [hk1s.cell]; rfl⟩))
      clear hK K
      try simp only [Act.put, pa, pb, pc]
      clear d0 d1 df0 df1
      have d0 : ((w15.setCell ⟨w.heap.size, 0, none⟩ (.int .i64 a)).setCell ⟨w.heap.size, 1, none⟩ (.slice b5 lx.length c5)).cell? ⟨w.heap.size + 1, 0, none⟩ = some (.int .i64 0) := (by rw [hTs.cell]; rfl)
      have d1 : ((w15.setCell ⟨w.heap.size, 0, none⟩ (.int .i64 a)).setCell ⟨w.heap.size, 1, none⟩ (.slice b5 lx.length c5)).cell? ⟨w.heap.size + 1, 1, none⟩ = some (.slice none 0 0) := (by rw [hTs.cell]; rfl)
      have df0 := hTs.free 0
      have df1 := hTs.free 1
      have hk0t := (hk0s.setOther (a := ⟨w.heap.size + 1, 0, none⟩) (show w5.heap.size ≠ w.heap.size + 1 from by omega) (.int .i64 RA)).setOther (a := ⟨w.heap.size + 1, 1, none⟩) (show w5.heap.size ≠ w.heap.size + 1 from by omega) (.slice b10 n10 c10)
      have hk1t := (hk1s.setOther (a := ⟨w.heap.size + 1, 0, none⟩) (show yb ≠ w.heap.size + 1 from by omega) (.int .i64 RA)).setOther (a := ⟨w.heap.size + 1, 1, none⟩) (show yb ≠ w.heap.size + 1 from by omega) (.slice b10 n10 c10)
      refine rd1 3 (fun K hK => ?_)
      go_simp
      refine hK.out _ _ ?_ (fun hHeld => ?_)
      focus ((try dsimp only); (exact ⟨by rw [hk0t.cell]; rfl, by rw [hk0t.cell]; rfl, by rw [hk1t.cell]; rfl, by rw [hk1t.cell]; rfl⟩))
      clear hK K
      try simp only [Act.put, pa, pb, pc]
      clear d0 d1 df0 df1
      refine wpAnyH_done (by kernel_rfl) ?_ _
      have hRz := (((hR14.set_ 0 (.int .i64 a)).set_ 1 (.slice b5 lx.length c5)).setOther (a := ⟨w.heap.size + 1, 0, none⟩) (show w.heap.size ≠ w.heap.size + 1 from by omega) (.int .i64 RA)).setOther (a := ⟨w.heap.size + 1, 1, none⟩) (show w.heap.size ≠ w.heap.size + 1 from by omega) (.slice b10 n10 c10)
      have hTz := (hTs.set_ 0 (.int .i64 RA)).set_ 1 (.slice b10 n10 c10)
      have r0 : ((((w15.setCell ⟨w.heap.size, 0, none⟩ (.int .i64 a)).setCell ⟨w.heap.size, 1, none⟩ (.slice b5 lx.length c5)).setCell ⟨w.heap.size + 1, 0, none⟩ (.int .i64 RA)).setCell ⟨w.heap.size + 1, 1, none⟩ (.slice b10 n10 c10)).cell? ⟨w.heap.size, 0, none⟩ = some (.int .i64 a) := (by rw [hRz.cell]; rfl)
      have r1 : ((((w15.setCell ⟨w.heap.size, 0, none⟩ (.int .i64 a)).setCell ⟨w.heap.size, 1, none⟩ (.slice b5 lx.length c5)).setCell ⟨w.heap.size + 1, 0, none⟩ (.int .i64 RA)).setCell ⟨w.heap.size + 1, 1, none⟩ (.slice b10 n10 c10)).cell? ⟨w.heap.size, 1, none⟩ = some (.slice b5 lx.length c5) := (by rw [hRz.cell]; rfl)
      have t0 : ((((w15.setCell ⟨w.heap.size, 0, none⟩ (.int .i64 a)).setCell ⟨w.heap.size, 1, none⟩ (.slice b5 lx.length c5)).setCell ⟨w.heap.size + 1, 0, none⟩ (.int .i64 RA)).setCell ⟨w.heap.size + 1, 1, none⟩ (.slice b10 n10 c10)).cell? ⟨w.heap.size + 1, 0, none⟩ = some (.int .i64 RA) := (by rw [hTz.cell]; rfl)
      have t1 : ((((w15.setCell ⟨w.heap.size, 0, none⟩ (.int .i64 a)).setCell ⟨w.heap.size, 1, none⟩ (.slice b5 lx.length c5)).setCell ⟨w.heap.size + 1, 0, none⟩ (.int .i64 RA)).setCell ⟨w.heap.size + 1, 1, none⟩ (.slice b10 n10 c10)).cell? ⟨w.heap.size + 1, 1, none⟩ = some (.slice b10 n10 c10) := (by rw [hTz.cell]; rfl)
      go_wp2
      refine bodyPost_ret (v := .tuple #[.agg #[.int .i64 a, .slice b5 lx.length c5], .agg #[.int .i64 RA, .slice b10 n10 c10]]) (by simp [results, Try.results22, go_sem, r0, r1, t0, t1]) rfl ⟨a, .slice b5 lx.length c5, lx, RA, .slice b10 n10 c10, RW, rfl, ?_, by omega, ?_, by omega, ?_⟩
      · have hne : ∀ k, (.slice b5 lx.length c5 : Value).ownBlock = some k → k ≠ w.heap.size := fun k hk => by have := HNB.out k hk; omega
        have hne1 : ∀ k, (.slice b5 lx.length c5 : Value).ownBlock = some k → k ≠ w.heap.size + 1 := fun k hk => by have := HNB.out k hk; omega
        exact ((((hN14.setCell (a := ⟨w.heap.size, 0, none⟩) hne _).setCell (a := ⟨w.heap.size, 1, none⟩) hne _).setCell (a := ⟨w.heap.size + 1, 0, none⟩) hne1 _).setCell (a := ⟨w.heap.size + 1, 1, none⟩) hne1 _).low (by omega)
      · have hne : ∀ k, (.slice b10 n10 c10 : Value).ownBlock = some k → k ≠ w.heap.size := fun k hk => by have := HMB.out k hk; omega
        have hne1 : ∀ k, (.slice b10 n10 c10 : Value).ownBlock = some k → k ≠ w.heap.size + 1 := fun k hk => by have := HMB.out k hk; omega
        exact ((((hM14.setCell (a := ⟨w.heap.size, 0, none⟩) hne _).setCell (a := ⟨w.heap.size, 1, none⟩) hne _).setCell (a := ⟨w.heap.size + 1, 0, none⟩) hne1 _).setCell (a := ⟨w.heap.size + 1, 1, none⟩) hne1 _).low (by omega)
      · exact (((hw14.setCell (Nat.le_refl _) _).setCell (Nat.le_refl _) _).setCell (Nat.le_succ _) _).setCell (Nat.le_succ _) _
  · have hkd : ((k7 : Int) == 0) = false := by simp; omega
    go_wp2
    have hXD := hX7.next (Below.refl _ w7).drew
    have hYD := hY7.next (Below.refl _ w7).drew
    have hRD := hR7.next (Below.refl _ w7).drew
    have hTD := hT7.next (Below.refl _ w7).drew
    have hOD := hO7.next (Below.refl _ w7).drew
    have hND := hN7.next (Below.refl _ w7).drew
    have hqD := hq7.next (Below.refl _ w7).drew
    have hwD := hw7.drew
    refine wp_region_held_drew (S := (fun W => W.cell? ⟨w2.heap.size, 0, none⟩ = some (.int .i64 z) ∧ W.cell? ⟨w2.heap.size, 1, none⟩ = some (.slice b3 l.length c3) ∧ W.cell? ⟨w5.heap.size, 0, none⟩ = some (.int .i64 a) ∧ W.cell? ⟨w5.heap.size, 1, none⟩ = some (.slice b5 lx.length c5))) (by kernel_rfl) ?_ (fun hHeld => ?_)
    focus ((try dsimp only); (exact ⟨by rw [hXD.cell]; rfl, by rw [hXD.cell]; rfl, by rw [hYD.cell]; rfl, by rw [hYD.cell]; rfl⟩))
    obtain ⟨wd, HWD⟩ : ∃ wd, Hid (w7.drew = wd) := ⟨_, Lib.hid rfl⟩
    rw [HWD.out] at hHeld hXD hYD hRD hTD hOD hND hqD hwD
    rw [HWD.out]
    (refine tk 0 ?_; try simp only [Act.put, pa, pb, pc])
    (refine tk 1 ?_; try simp only [Act.put, pa, pb, pc])
    (refine tk 2 ?_; try simp only [Act.put, pa, pb, pc])
    (refine tk 3 ?_; try simp only [Act.put, pa, pb, pc])
    (refine rd1 4 (fun K hK => ?_); go_simp; (go_at_call 49; refine (bentW_d g A m c q7 a b5 c5 lx _ hqD (by omega) hfx hfa (by omega) (hND.rd'.2.2.2)).mono ?_; rintro e w8 ⟨a8, v8, l8, rfl, hM8, hf8, ha8, hl8, hd8⟩; obtain ⟨q8, h81, h82, hq8⟩ := hd8.rdr; have hX8 := hXD.drawn (by omega) hd8.grown; have hY8 := hYD.drawn (by omega) hd8.grown; have hR8 := hRD.drawn (by omega) hd8.grown; have hT8 := hTD.drawn (by omega) hd8.grown; have hO8 := hOD.drawn (show g < g + 1 from Nat.lt_succ_self g) hd8.grown; have hN8 := hND.drawn (show g < g + 1 from Nat.lt_succ_self g) hd8.grown; have hw8 : Below w.heap.size w w8 := hwD.grown hd8.grown hwD.size (fun k hk => by have := Option.some.inj hk; omega); obtain ⟨b8, c8, rfl, hv1, hv2, hv3⟩ := hM8.read; clear hv1 hv2); go_wp2_with fail; refine hK.out _ _ ?_ (fun hHeld => ?_); (focus ((try dsimp only); (exact ⟨by rw [hX8.cell]; rfl, by rw [hX8.cell]; rfl, by rw [hY8.cell]; rfl, by rw [hY8.cell]; rfl⟩))); clear hK K; (try simp only [Act.put, pa, pb, pc]))
    (refine rd1 5 (fun K hK => ?_); go_simp; (go_at_call 49; refine (bentW_d g A m c q8 a8 b8 c8 l8 _ hq8 (by omega) hf8 ha8 (by omega) hv3).mono ?_; rintro e w10 ⟨RA, v10, RW, rfl, hM10, hf10, ha10, hpl, hd10⟩; have hX10 := hX8.drawn (by omega) hd10.grown; have hY10 := hY8.drawn (by omega) hd10.grown; have hR10 := hR8.drawn (by omega) hd10.grown; have hT10 := hT8.drawn (by omega) hd10.grown; have hO10 := hO8.drawn (show g < g + 1 from Nat.lt_succ_self g) hd10.grown; have hN10 := hN8.drawn (show g < g + 1 from Nat.lt_succ_self g) hd10.grown; have hw10 : Below w.heap.size w w10 := hw8.grown hd10.grown hw8.size (fun k hk => by have := Option.some.inj hk; omega); have hs8 := hw8.size; have hT8l := hT8.lt; have HMB0 : Hid (∀ k, v10.ownBlock = some k → w.heap.size + 1 < k) := (fun k hk => by have := (hM10.block_lt hk).1; omega); have hM10 := hM10.low hs8; obtain ⟨b10, n10, c10, rfl⟩ := hM10.slice); go_wp2_with fail; refine hK.out _ _ ?_ (fun hHeld => ?_); (focus ((try dsimp only); (exact ⟨by rw [hX10.cell]; rfl, by rw [hX10.cell]; rfl, by rw [hY10.cell]; rfl, by rw [hY10.cell]; rfl⟩))); clear hK K; (try simp only [Act.put, pa, pb, pc]))
    have HMB : Hid (∀ k, (.slice b10 n10 c10 : Value).ownBlock = some k → w.heap.size + 1 < k) := HMB0.out
    have d0 : w10.cell? ⟨w.heap.size, 0, none⟩ = some (.int .i64 0) := (by rw [hR10.cell]; rfl)
    have d1 : w10.cell? ⟨w.heap.size, 1, none⟩ = some (.slice none 0 0) := (by rw [hR10.cell]; rfl)
    have df0 := hR10.free 0
    have df1 := hR10.free 1
    have hTs := (hT10.setOther (a := ⟨w.heap.size, 0, none⟩) (show w.heap.size + 1 ≠ w.heap.size from by omega) (.int .i64 a)).setOther (a := ⟨w.heap.size, 1, none⟩) (show w.heap.size + 1 ≠ w.heap.size from by omega) (.slice b5 lx.length c5)
    have hk0s := (hX10.setOther (a := ⟨w.heap.size, 0, none⟩) (show w2.heap.size ≠ w.heap.size from by omega) (.int .i64 a)).setOther (a := ⟨w.heap.size, 1, none⟩) (show w2.heap.size ≠ w.heap.size from by omega) (.slice b5 lx.length c5)
    have hk1s := (hY10.setOther (a := ⟨w.heap.size, 0, none⟩) (show w5.heap.size ≠ w.heap.size from by omega) (.int .i64 a)).setOther (a := ⟨w.heap.size, 1, none⟩) (show w5.heap.size ≠ w.heap.size from by omega) (.slice b5 lx.length c5)
    refine rd1 6 (fun K hK => ?_)
    go_simp
    refine hK.out _ _ ?_ (fun hHeld => ?_)
    focus ((try dsimp only); (exact ⟨by rw [hk0s.cell]; rfl, by rw [hk0s.cell]; rfl, by rw [hk1s.cell]; rfl, by rw [hk1s.cell]; rfl⟩))
    clear hK K
    try simp only [Act.put, pa, pb, pc]
    clear d0 d1 df0 df1
    have d0 : ((w10.setCell ⟨w.heap.size, 0, none⟩ (.int .i64 a)).setCell ⟨w.heap.size, 1, none⟩ (.slice b5 lx.length c5)).cell? ⟨w.heap.size + 1, 0, none⟩ = some (.int .i64 0) := (by rw [hTs.cell]; rfl)
    have d1 : ((w10.setCell ⟨w.heap.size, 0, none⟩ (.int .i64 a)).setCell ⟨w.heap.size, 1, none⟩ (.slice b5 lx.length c5)).cell? ⟨w.heap.size + 1, 1, none⟩ = some (.slice none 0 0) := (by rw [hTs.cell]; rfl)
    have df0 := hTs.free 0
    have df1 := hTs.free 1
    have hk0t := (hk0s.setOther (a := ⟨w.heap.size + 1, 0, none⟩) (show w2.heap.size ≠ w.heap.size + 1 from by omega) (.int .i64 RA)).setOther (a := ⟨w.heap.size + 1, 1, none⟩) (show w2.heap.size ≠ w.heap.size + 1 from by omega) (.slice b10 n10 c10)
    have hk1t := (hk1s.setOther (a := ⟨w.heap.size + 1, 0, none⟩) (show w5.heap.size ≠ w.heap.size + 1 from by omega) (.int .i64 RA)).setOther (a := ⟨w.heap.size + 1, 1, none⟩) (show w5.heap.size ≠ w.heap.size + 1 from by omega) (.slice b10 n10 c10)
    refine rd1 7 (fun K hK => ?_)
    go_simp
    refine hK.out _ _ ?_ (fun hHeld => ?_)
    focus ((try dsimp only); (exact ⟨by rw [hk0t.cell]; rfl, by rw [hk0t.cell]; rfl, by rw [hk1t.cell]; rfl, by rw [hk1t.cell]; rfl⟩))
    clear hK K
    try simp only [Act.put, pa, pb, pc]
    clear d0 d1 df0 df1
    refine wpAnyH_done (by kernel_rfl) ?_ _
    have hRz := (((hR10.set_ 0 (.int .i64 a)).set_ 1 (.slice b5 lx.length c5)).setOther (a := ⟨w.heap.size + 1, 0, none⟩) (show w.heap.size ≠ w.heap.size + 1 from by omega) (.int .i64 RA)).setOther (a := ⟨w.heap.size + 1, 1, none⟩) (show w.heap.size ≠ w.heap.size + 1 from by omega) (.slice b10 n10 c10)
    have hTz := (hTs.set_ 0 (.int .i64 RA)).set_ 1 (.slice b10 n10 c10)
    have r0 : ((((w10.setCell ⟨w.heap.size, 0, none⟩ (.int .i64 a)).setCell ⟨w.heap.size, 1, none⟩ (.slice b5 lx.length c5)).setCell ⟨w.heap.size + 1, 0, none⟩ (.int .i64 RA)).setCell ⟨w.heap.size + 1, 1, none⟩ (.slice b10 n10 c10)).cell? ⟨w.heap.size, 0, none⟩ = some (.int .i64 a) := (by rw [hRz.cell]; rfl)
    have r1 : ((((w10.setCell ⟨w.heap.size, 0, none⟩ (.int .i64 a)).setCell ⟨w.heap.size, 1, none⟩ (.slice b5 lx.length c5)).setCell ⟨w.heap.size + 1, 0, none⟩ (.int .i64 RA)).setCell ⟨w.heap.size + 1, 1, none⟩ (.slice b10 n10 c10)).cell? ⟨w.heap.size, 1, none⟩ = some (.slice b5 lx.length c5) := (by rw [hRz.cell]; rfl)
    have t0 : ((((w10.setCell ⟨w.heap.size, 0, none⟩ (.int .i64 a)).setCell ⟨w.heap.size, 1, none⟩ (.slice b5 lx.length c5)).setCell ⟨w.heap.size + 1, 0, none⟩ (.int .i64 RA)).setCell ⟨w.heap.size + 1, 1, none⟩ (.slice b10 n10 c10)).cell? ⟨w.heap.size + 1, 0, none⟩ = some (.int .i64 RA) := (by rw [hTz.cell]; rfl)
    have t1 : ((((w10.setCell ⟨w.heap.size, 0, none⟩ (.int .i64 a)).setCell ⟨w.heap.size, 1, none⟩ (.slice b5 lx.length c5)).setCell ⟨w.heap.size + 1, 0, none⟩ (.int .i64 RA)).setCell ⟨w.heap.size + 1, 1, none⟩ (.slice b10 n10 c10)).cell? ⟨w.heap.size + 1, 1, none⟩ = some (.slice b10 n10 c10) := (by rw [hTz.cell]; rfl)
    go_wp2
    refine bodyPost_ret (v := .tuple #[.agg #[.int .i64 a, .slice b5 lx.length c5], .agg #[.int .i64 RA, .slice b10 n10 c10]]) (by simp [results, Try.results22, go_sem, r0, r1, t0, t1]) rfl ⟨a, .slice b5 lx.length c5, lx, RA, .slice b10 n10 c10, RW, rfl, ?_, by omega, ?_, by omega, ?_⟩
    · have hne : ∀ k, (.slice b5 lx.length c5 : Value).ownBlock = some k → k ≠ w.heap.size := fun k hk => by have := HNB.out k hk; omega
      have hne1 : ∀ k, (.slice b5 lx.length c5 : Value).ownBlock = some k → k ≠ w.heap.size + 1 := fun k hk => by have := HNB.out k hk; omega
      exact ((((hN10.setCell (a := ⟨w.heap.size, 0, none⟩) hne _).setCell (a := ⟨w.heap.size, 1, none⟩) hne _).setCell (a := ⟨w.heap.size + 1, 0, none⟩) hne1 _).setCell (a := ⟨w.heap.size + 1, 1, none⟩) hne1 _).low (by omega)
    · have hne : ∀ k, (.slice b10 n10 c10 : Value).ownBlock = some k → k ≠ w.heap.size := fun k hk => by have := HMB.out k hk; omega
      have hne1 : ∀ k, (.slice b10 n10 c10 : Value).ownBlock = some k → k ≠ w.heap.size + 1 := fun k hk => by have := HMB.out k hk; omega
      exact ((((hM10.setCell (a := ⟨w.heap.size, 0, none⟩) hne _).setCell (a := ⟨w.heap.size, 1, none⟩) hne _).setCell (a := ⟨w.heap.size + 1, 0, none⟩) hne1 _).setCell (a := ⟨w.heap.size + 1, 1, none⟩) hne1 _).low (by omega)
    · exact (((hw10.setCell (Nat.le_refl _) _).setCell (Nat.le_refl _) _).setCell (Nat.le_succ _) _).setCell (Nat.le_succ _) _

end Go.Proofs.Ytbeklnhngjmpiaa
