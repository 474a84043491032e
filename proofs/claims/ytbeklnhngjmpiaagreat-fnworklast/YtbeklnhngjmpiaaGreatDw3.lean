/- The draws of chapter 3: histories with transactions. -/
import Derived.Test.YtbeklnhngjmpiaaGreatDw2
import Derived.Test.YtbeklnhngjmpiaaGreatDv7
namespace Go.Proofs.YtbeklnhngjmpiaaGreat
open Go.RowKit
set_option linter.unusedVariables false
set_option maxRecDepth 100000

theorem typesVX : (34 : TypeId) ≠ 52 := by decide
def RetDB (g : Nat) (A : Option Addr) (n c p K : Nat) (w : World) (e : Ending) (w' : World) : Prop :=
 ∃ z v l a u lx, e = .returned (.tuple #[.agg #[.int .i64 z, v], .agg #[.int .i64 a, u]]) ∧ OwnG w' w.heap.size v l ∧ FitVs l ∧ (-20 ≤ z ∧ z ≤ 60) ∧ l.length ≤ 80 ∧ OwnG w' w.heap.size u lx ∧ FitXs lx ∧ FitI a ∧ lx.length ≤ 8 ∧ Dw g A n c p K w w'
def DrawnVW (w : World) (e : Ending) (w' : World) : Prop :=
 ∃ z v l a u lx, e = .returned (.tuple #[.agg #[.int .i64 z, v], .agg #[.int .i64 a, u]]) ∧ OwnG w' w.heap.size v l ∧ FitVs l ∧ (-20 ≤ z ∧ z ≤ 60) ∧ l.length ≤ 80 ∧ OwnG w' w.heap.size u lx ∧ FitXs lx ∧ FitI a ∧ lx.length ≤ 8 ∧ Below w.heap.size w w'
def DrawnVWX (w : World) (e : Ending) (w' : World) : Prop :=
 ∃ z v l a u lx, ∃ x : X, e = .returned (.tuple #[.agg #[.int .i64 z, v], .agg #[.int .i64 a, u], .agg #[.string x.k, .int .i64 x.n, .bool x.g]]) ∧ OwnG w' w.heap.size v l ∧ FitVs l ∧ (-20 ≤ z ∧ z ≤ 60) ∧ l.length ≤ 80 ∧ OwnG w' w.heap.size u lx ∧ FitXs lx ∧ FitI a ∧ lx.length ≤ 8 ∧ FitX x ∧ Below w.heap.size w w'

set_option maxHeartbeats 8000000 in
theorem bothW_d (g : Nat) (A : Option Addr) (n c p : Nat) (w : World) (h : Rdr w g A n c p) (hp : p ≤ 980000) :
  Calls Tryz.prog 86 #[.pointer (some ⟨g, 0, none⟩)] w (RetDB g A n c p 820 w) := by
 have hgl := h.lt
 have hb0 : Below w.heap.size w ((w.alloc (.cells #[.int .i64 0, .slice none 0 0] 34)).alloc (.cells #[.int .i64 0, .slice none 0 0] 38)) := below_alloc (below_alloc (Below.refl _ _) _) _
 have hR0 := (blkA w #[.int .i64 0, .slice none 0 0] 34).alloc (.cells #[.int .i64 0, .slice none 0 0] 38)
 have hT0 := blkA (w.alloc (.cells #[.int .i64 0, .slice none 0 0] 34)) #[.int .i64 0, .slice none 0 0] 38
 simp only [World.size_alloc] at hT0
 have hsz : ((w.alloc (.cells #[.int .i64 0, .slice none 0 0] 34)).alloc (.cells #[.int .i64 0, .slice none 0 0] 38)).heap.size = w.heap.size + 2 := by simp
 obtain ⟨wn, HW⟩ : ∃ wn, Hid ((w.alloc (.cells #[.int .i64 0, .slice none 0 0] 34)).alloc (.cells #[.int .i64 0, .slice none 0 0] 38) = wn) := ⟨_, Lib.hid rfl⟩
 rw [HW.out] at hb0 hR0 hT0 hsz
 have hq0 := h.next hb0
 have hgr0 : w.grownBy wn (some g) := grown_call (World.grownBy.refl w _) hb0
 go_enter Tryz.func86, Tryz.ntmps86
 go_wp2_with fail
 rw [HW.out]
 refine (some_dP g A n c p wn hq0 (by omega)).mono ?_
 rintro e w1 ⟨z, v1, l, rfl, hO1, hf, hP, hd1⟩
 obtain ⟨q1, h11, h12, hq1⟩ := hd1.rdr
 have hR1 := hR0.drawn (by omega) hd1.grown
 have hT1 := hT0.drawn (by omega) hd1.grown
 have hgr1 := hgr0.trans hd1.grown
 have hO1 := hO1.low (show w.heap.size + 2 ≤ wn.heap.size from by omega)
 have hz0 := hP.now0
 have hz1 := hP.now
 have hl0 := hP.len
 have HP := Lib.hid hP
 clear hP
 have hw1 := hgr1.size
 have hTl1 := hT1.lt
 obtain ⟨b1, c1, rfl, hy1, hy2, hy3⟩ := hO1.read
 clear hy1 hy2 hy3
 have hb2 : Below w1.heap.size w1 (w1.alloc (.cells #[.int .i64 z, .slice b1 l.length c1] 34)) := below_alloc (Below.refl _ _) _
 have hX2 := blkA w1 #[.int .i64 z, .slice b1 l.length c1] 34
 have hR2 := hR1.next hb2
 have hT2 := hT1.next hb2
 have hO2 := hO1.next hb2
 have hq2 := hq1.next hb2
 have hgr2 := grown_call hgr1 hb2
 obtain ⟨sv, HSV, hsv⟩ : ∃ sv, Hid (w1.heap.size = sv) ∧ w.heap.size + 2 ≤ sv := ⟨_, Lib.hid rfl, by omega⟩
 rw [HSV.out] at hX2
 go_wp2_with fail
 refine (someW_d g A n c q1 z b1 c1 l _ hq2 (by omega) HP.out hf (w.heap.size + 2) (by omega) hO2).mono ?_
 rintro e w3 ⟨a3, v3, l3, rfl, hM3, hfx3, hfa3, hl3, hd3⟩
 try rw [HSV.out]
 obtain ⟨q3, h31, h32, hq3⟩ := hd3.rdr
 have hR3 := hR2.drawn (by omega) hd3.grown
 have hT3 := hT2.drawn (by omega) hd3.grown
 have hX3 := hX2.drawn (by omega) hd3.grown
 have hO3 := hO2.drawn (show g < w.heap.size + 2 from by omega) hd3.grown
 have hgr3 := hgr2.trans hd3.grown
 obtain ⟨b3, c3, rfl, hu1, hu2, hu3⟩ := hM3.read
 clear hu1 hu2
 have hXl3 := hX3.lt
 go_wp2_with fail
 refine (bentW_d g A n c q3 a3 b3 c3 l3 w3 hq3 (by omega) hfx3 hfa3 (by omega) hu3).mono ?_
 rintro e w4 ⟨a, v4, lx, rfl, hN4, hfx, hfa, hlx, hd4⟩
 try rw [HSV.out]
 obtain ⟨q4, h41, h42, hq4⟩ := hd4.rdr
 have hR4 := hR3.drawn (by omega) hd4.grown
 have hT4 := hT3.drawn (by omega) hd4.grown
 have hX4 := hX3.drawn (by omega) hd4.grown
 have hO4 := hO3.drawn (show g < w.heap.size + 2 from by omega) hd4.grown
 have hgr4 := hgr3.trans hd4.grown
 have hN4 := hN4.low (show w.heap.size + 2 ≤ w3.heap.size from by omega)
 obtain ⟨b4, n4, c4, rfl⟩ := hN4.slice
 have hXl4 := hX4.lt
 have hb5 : Below w4.heap.size w4 (w4.alloc (.cells #[.int .i64 a, .slice b4 n4 c4] 38)) := below_alloc (Below.refl _ _) _
 have hY5 := blkA w4 #[.int .i64 a, .slice b4 n4 c4] 38
 have hR5 := hR4.next hb5
 have hT5 := hT4.next hb5
 have hX5 := hX4.next hb5
 have hO5 := hO4.next hb5
 have hN5 := hN4.next hb5
 have hq5 := hq4.next hb5
 have hgr5 := grown_call hgr4 hb5
 obtain ⟨sw, HSW, hsw⟩ : ∃ sw, Hid (w4.heap.size = sw) ∧ sv < sw := ⟨_, Lib.hid rfl, by omega⟩
 rw [HSW.out] at hY5
 go_wp2_with fail
 refine (pick_d g A n c q4 3 _ hq5 (by omega) (by omega) (by omega)).mono ?_
 rintro e w6 ⟨k6, rfl, hk6, hd6⟩
 try rw [HSV.out]
 try rw [HSW.out]
 obtain ⟨q6, h61, h62, hq6⟩ := hd6.rdr
 have hR6 := hR5.drawn (by omega) hd6.grown
 have hT6 := hT5.drawn (by omega) hd6.grown
 have hX6 := hX5.drawn (by omega) hd6.grown
 have hY6 := hY5.drawn (by omega) hd6.grown
 have hO6 := hO5.drawn (show g < w.heap.size + 2 from by omega) hd6.grown
 have hN6 := hN5.drawn (show g < w.heap.size + 2 from by omega) hd6.grown
 have hgr6 := hgr5.trans hd6.grown
 clear hR0 hT0 hq0 hgr0 hR1 hT1 hO1 hq1 hgr1 hX2 hR2 hT2 hO2 hq2 hgr2 hX3 hR3 hT3 hO3 hq3 hgr3 hM3 hu3 hX4 hR4 hT4 hO4 hN4 hq4 hgr4 hX5 hY5 hR5 hT5 hO5 hN5 hq5 hgr5 hd1 hd3 hd4 hd6
 by_cases hk0 : k6 = 0
 ·
  have e0 : ((k6 : Int) == 0) = true := by simp [hk0]
  have hal := atL_length l z
  have hfr := fitR_at hf z
  obtain ⟨al, HAL⟩ : ∃ al, Hid (atL l z = al) := ⟨_, Lib.hid rfl⟩
  rw [HAL.out] at hal hfr
  have x0 : w6.cell? ⟨sv, 0, none⟩ = some (.int .i64 z) := (by rw [hX6.cell]; rfl)
  have x1 : w6.cell? ⟨sv, 1, none⟩ = some (.slice b1 l.length c1) := (by rw [hX6.cell]; rfl)
  have xf0 := hX6.free 0
  have xf1 := hX6.free 1
  go_wp2_with fail
  refine (specAt z b1 c1 l z w6 hO6.rd'.2.1 (by omega) hO6.rd'.2.2.2).mono ?_
  rw [HAL.out]
  rintro e w7 ⟨v7, rfl, hA7, hb7⟩
  have hR7 := hR6.next hb7
  have hT7 := hT6.next hb7
  have hX7 := hX6.next hb7
  have hY7 := hY6.next hb7
  have hO7 := hO6.next hb7
  have hN7 := hN6.next hb7
  have hq7 := hq6.next hb7
  have hgr7 := grown_call hgr6 hb7
  obtain ⟨A7, c7, rfl, hv1, hv2, hv3⟩ := hA7.read
  clear hv1 hv2 hv3
  have hl7 := hq6.lt
  go_wp2_with fail
  refine (writes_d g A n c q6 A7 c7 al w7 hq7 (by omega) hfr (by omega) _ hl7 hA7).mono ?_
  rintro e w8 ⟨v8, lw, rfl, hW8, hfw, hlw, hd8⟩
  obtain ⟨q8, h81, h82, hq8⟩ := hd8.rdr
  have hR8 := hR7.drawn (by omega) hd8.grown
  have hT8 := hT7.drawn (by omega) hd8.grown
  have hX8 := hX7.drawn (by omega) hd8.grown
  have hY8 := hY7.drawn (by omega) hd8.grown
  have hO8 := hO7.drawn (show g < w.heap.size + 2 from by omega) hd8.grown
  have hN8 := hN7.drawn (show g < w.heap.size + 2 from by omega) hd8.grown
  have hgr8 := hgr7.trans hd8.grown
  obtain ⟨b8, c8, rfl, hg1, hg2, hg3⟩ := hW8.read
  clear x0 x1 xf0 xf1
  cases hok : writesB lw
  ·
   go_wp2_with fail
   refine (specWritesOk b8 c8 lw w8 hfw hg1 hg2 hg3).mono ?_
   rintro e w9 ⟨rfl, hb9⟩
   rw [hok]
   have hR9 := hR8.next hb9
   have hT9 := hT8.next hb9
   have hX9 := hX8.next hb9
   have hY9 := hY8.next hb9
   have hO9 := hO8.next hb9
   have hN9 := hN8.next hb9
   have hq9 := hq8.next hb9
   have hgr9 := grown_call hgr8 hb9
   clear hX6 hY6 hR6 hT6 hO6 hN6 hq6 hgr6 hX7 hY7 hR7 hT7 hO7 hN7 hq7 hgr7 hX8 hY8 hR8 hT8 hO8 hN8 hq8 hgr8
   go_wp2_with fail
   refine (pick_d g A n c q8 10 _ hq9 (by omega) (by omega) (by omega)).mono ?_
   rintro e w20 ⟨k20, rfl, hk20, hd20⟩
   obtain ⟨q20, h201, h202, hq20⟩ := hd20.rdr
   have hR20 := hR9.drawn (by omega) hd20.grown
   have hT20 := hT9.drawn (by omega) hd20.grown
   have hX20 := hX9.drawn (by omega) hd20.grown
   have hY20 := hY9.drawn (by omega) hd20.grown
   have hO20 := hO9.drawn (show g < w.heap.size + 2 from by omega) hd20.grown
   have hN20 := hN9.drawn (show g < w.heap.size + 2 from by omega) hd20.grown
   have hgr20 := hgr9.trans hd20.grown
   clear hX9 hY9 hR9 hT9 hO9 hN9 hq9 hgr9 hd20
   by_cases hk9 : k20 = 0
   ·
    have e9 : ((k20 : Int) == 0) = true := by simp [hk9]
    have x0 : w20.cell? ⟨sv, 0, none⟩ = some (.int .i64 z) := (by rw [hX20.cell]; rfl)
    have x1 : w20.cell? ⟨sv, 1, none⟩ = some (.slice b1 l.length c1) := (by rw [hX20.cell]; rfl)
    have xf0 := hX20.free 0
    have xf1 := hX20.free 1
    go_wp2_with fail
    refine (bentV_d g A n c q20 z b1 c1 l 10 w20 hq20 (by omega) hf (by omega) (by omega) (by omega) (by omega) hO20.rd'.2.2.2).mono ?_
    rintro e w21 ⟨z21, v21, l21, rfl, hB21, hf21, ⟨hz211, hz212⟩, hl21, hd21⟩
    obtain ⟨q21, h211, h212, hq21⟩ := hd21.rdr
    have hs20 := hgr20.size
    have hTl20 := hT20.lt
    have hR21 := hR20.drawn (by omega) hd21.grown
    have hT21 := hT20.drawn (by omega) hd21.grown
    have hX21 := hX20.drawn (by omega) hd21.grown
    have hY21 := hY20.drawn (by omega) hd21.grown
    have hO21 := hO20.drawn (show g < w.heap.size + 2 from by omega) hd21.grown
    have hN21 := hN20.drawn (show g < w.heap.size + 2 from by omega) hd21.grown
    have hgr21 := hgr20.trans hd21.grown
    have hB21 := hB21.low (show w.heap.size + 2 ≤ w20.heap.size from by omega)
    obtain ⟨b21, n21, c21, rfl⟩ := hB21.slice
    clear x0 x1 xf0 xf1
    have x0 : w21.cell? ⟨sv, 0, none⟩ = some (.int .i64 z) := (by rw [hX21.cell]; rfl)
    have x1 : w21.cell? ⟨sv, 1, none⟩ = some (.slice b1 l.length c1) := (by rw [hX21.cell]; rfl)
    have xf0 := hX21.free 0
    have xf1 := hX21.free 1
    have hX22 := (hX21.set_ 0 (.int .i64 z21)).set_ 1 (.slice b21 n21 c21)
    have hY22 := (hY21.setOther (a := ⟨sv, 0, none⟩) (show sw ≠ sv from by omega) (.int .i64 z21)).setOther (a := ⟨sv, 1, none⟩) (show sw ≠ sv from by omega) (.slice b21 n21 c21)
    have hR22 := (hR21.setOther (a := ⟨sv, 0, none⟩) (show w.heap.size ≠ sv from by omega) (.int .i64 z21)).setOther (a := ⟨sv, 1, none⟩) (show w.heap.size ≠ sv from by omega) (.slice b21 n21 c21)
    have hT22 := (hT21.setOther (a := ⟨sv, 0, none⟩) (show w.heap.size + 1 ≠ sv from by omega) (.int .i64 z21)).setOther (a := ⟨sv, 1, none⟩) (show w.heap.size + 1 ≠ sv from by omega) (.slice b21 n21 c21)
    have hO22 := (hB21.setCell (a := ⟨sv, 0, none⟩) (fun k hk e => by obtain ⟨cs, hcs⟩ := hB21.blk_of hk; exact hX21.ne hcs typesVV e.symm) (.int .i64 z21)).setCell (a := ⟨sv, 1, none⟩) (fun k hk e => by obtain ⟨cs, hcs⟩ := hB21.blk_of hk; exact hX21.ne hcs typesVV e.symm) (.slice b21 n21 c21)
    have hN22 := (hN21.setCell (a := ⟨sv, 0, none⟩) (fun k hk e => by obtain ⟨cs, hcs⟩ := hN21.blk_of hk; exact hX21.ne hcs typesVX e.symm) (.int .i64 z21)).setCell (a := ⟨sv, 1, none⟩) (fun k hk e => by obtain ⟨cs, hcs⟩ := hN21.blk_of hk; exact hX21.ne hcs typesVX e.symm) (.slice b21 n21 c21)
    have hbS22 : Below w.heap.size w21 ((w21.setCell ⟨sv, 0, none⟩ (.int .i64 z21)).setCell ⟨sv, 1, none⟩ (.slice b21 n21 c21)) := ((Below.refl _ _).setCell (show w.heap.size ≤ sv from by omega) _).setCell (show w.heap.size ≤ sv from by omega) _
    have hgr22 := belowKeeps hgr21 hbS22 (Nat.le_refl _)
    have hq22 := hq21.belowR hbS22 hgl
    have hX22 : Blk ((w21.setCell ⟨sv, 0, none⟩ (.int .i64 z21)).setCell ⟨sv, 1, none⟩ (.slice b21 n21 c21)) sv 34 #[.int .i64 z21, .slice b21 n21 c21] := hX22.cast rfl
    have y0 : ((w21.setCell ⟨sv, 0, none⟩ (.int .i64 z21)).setCell ⟨sv, 1, none⟩ (.slice b21 n21 c21)).cell? ⟨sv, 0, none⟩ = some (.int .i64 z21) := (by rw [hX22.cell]; rfl)
    go_wp2
    have hXE := hX22.next (Below.refl _ ((w21.setCell ⟨sv, 0, none⟩ (.int .i64 z21)).setCell ⟨sv, 1, none⟩ (.slice b21 n21 c21))).drew
    have hYE := hY22.next (Below.refl _ ((w21.setCell ⟨sv, 0, none⟩ (.int .i64 z21)).setCell ⟨sv, 1, none⟩ (.slice b21 n21 c21))).drew
    have hRE := hR22.next (Below.refl _ ((w21.setCell ⟨sv, 0, none⟩ (.int .i64 z21)).setCell ⟨sv, 1, none⟩ (.slice b21 n21 c21))).drew
    have hTE := hT22.next (Below.refl _ ((w21.setCell ⟨sv, 0, none⟩ (.int .i64 z21)).setCell ⟨sv, 1, none⟩ (.slice b21 n21 c21))).drew
    have hOE := hO22.next (Below.refl _ ((w21.setCell ⟨sv, 0, none⟩ (.int .i64 z21)).setCell ⟨sv, 1, none⟩ (.slice b21 n21 c21))).drew
    have hNE := hN22.next (Below.refl _ ((w21.setCell ⟨sv, 0, none⟩ (.int .i64 z21)).setCell ⟨sv, 1, none⟩ (.slice b21 n21 c21))).drew
    have hqE := hq22.next (Below.refl _ ((w21.setCell ⟨sv, 0, none⟩ (.int .i64 z21)).setCell ⟨sv, 1, none⟩ (.slice b21 n21 c21))).drew
    have hgrE := grown_call hgr22 (Below.refl _ ((w21.setCell ⟨sv, 0, none⟩ (.int .i64 z21)).setCell ⟨sv, 1, none⟩ (.slice b21 n21 c21))).drew
    refine wp_region_held_drew (S := (fun W => W.cell? ⟨sv, 0, none⟩ = some (.int .i64 z21) ∧ W.cell? ⟨sv, 1, none⟩ = some (.slice b21 n21 c21) ∧ W.cell? ⟨sw, 0, none⟩ = some (.int .i64 a) ∧ W.cell? ⟨sw, 1, none⟩ = some (.slice b4 n4 c4))) (by kernel_rfl) ?_ (fun hHeld => ?_)
    focus ((try dsimp only); (exact ⟨by rw [hXE.cell]; rfl, by rw [hXE.cell]; rfl, by rw [hYE.cell]; rfl, by rw [hYE.cell]; rfl⟩))
    obtain ⟨we, HWE⟩ : ∃ we, Hid (((w21.setCell ⟨sv, 0, none⟩ (.int .i64 z21)).setCell ⟨sv, 1, none⟩ (.slice b21 n21 c21)).drew = we) := ⟨_, Lib.hid rfl⟩
    rw [HWE.out] at hHeld hXE hYE hRE hTE hOE hNE hqE hgrE
    rw [HWE.out]
    refine tk 0 ?_
    refine tk 1 ?_
    have d0 : we.cell? ⟨w.heap.size, 0, none⟩ = some (.int .i64 0) := (by rw [hRE.cell]; rfl)
    have d1 : we.cell? ⟨w.heap.size, 1, none⟩ = some (.slice none 0 0) := (by rw [hRE.cell]; rfl)
    have df0 := hRE.free 0
    have df1 := hRE.free 1
    have hXF := (hXE.setOther (a := ⟨w.heap.size, 0, none⟩) (show sv ≠ w.heap.size from by omega) (.int .i64 z21)).setOther (a := ⟨w.heap.size, 1, none⟩) (show sv ≠ w.heap.size from by omega) (.slice b21 n21 c21)
    have hYF := (hYE.setOther (a := ⟨w.heap.size, 0, none⟩) (show sw ≠ w.heap.size from by omega) (.int .i64 z21)).setOther (a := ⟨w.heap.size, 1, none⟩) (show sw ≠ w.heap.size from by omega) (.slice b21 n21 c21)
    have hTF := (hTE.setOther (a := ⟨w.heap.size, 0, none⟩) (show w.heap.size + 1 ≠ w.heap.size from by omega) (.int .i64 z21)).setOther (a := ⟨w.heap.size, 1, none⟩) (show w.heap.size + 1 ≠ w.heap.size from by omega) (.slice b21 n21 c21)
    refine rd1 2 (fun K hK => ?_)
    go_simp
    refine hK.out _ _ ?_ (fun hHeld => ?_)
    focus ((try dsimp only); (exact ⟨by rw [hXF.cell]; rfl, by rw [hXF.cell]; rfl, by rw [hYF.cell]; rfl, by rw [hYF.cell]; rfl⟩))
    clear hK K
    try simp only [Act.put, pa, pb, pc]
    clear d0 d1 df0 df1
    have d0 : ((we.setCell ⟨w.heap.size, 0, none⟩ (.int .i64 z21)).setCell ⟨w.heap.size, 1, none⟩ (.slice b21 n21 c21)).cell? ⟨w.heap.size + 1, 0, none⟩ = some (.int .i64 0) := (by rw [hTF.cell]; rfl)
    have d1 : ((we.setCell ⟨w.heap.size, 0, none⟩ (.int .i64 z21)).setCell ⟨w.heap.size, 1, none⟩ (.slice b21 n21 c21)).cell? ⟨w.heap.size + 1, 1, none⟩ = some (.slice none 0 0) := (by rw [hTF.cell]; rfl)
    have df0 := hTF.free 0
    have df1 := hTF.free 1
    have hXG := (hXF.setOther (a := ⟨w.heap.size + 1, 0, none⟩) (show sv ≠ w.heap.size + 1 from by omega) (.int .i64 a)).setOther (a := ⟨w.heap.size + 1, 1, none⟩) (show sv ≠ w.heap.size + 1 from by omega) (.slice b4 n4 c4)
    have hYG := (hYF.setOther (a := ⟨w.heap.size + 1, 0, none⟩) (show sw ≠ w.heap.size + 1 from by omega) (.int .i64 a)).setOther (a := ⟨w.heap.size + 1, 1, none⟩) (show sw ≠ w.heap.size + 1 from by omega) (.slice b4 n4 c4)
    refine rd1 3 (fun K hK => ?_)
    go_simp
    refine hK.out _ _ ?_ (fun hHeld => ?_)
    focus ((try dsimp only); (exact ⟨by rw [hXG.cell]; rfl, by rw [hXG.cell]; rfl, by rw [hYG.cell]; rfl, by rw [hYG.cell]; rfl⟩))
    clear hK K
    try simp only [Act.put, pa, pb, pc]
    clear d0 d1 df0 df1
    refine wpAnyH_done (by kernel_rfl) ?_ _
    have hRz := (((hRE.set_ 0 (.int .i64 z21)).set_ 1 (.slice b21 n21 c21)).setOther (a := ⟨w.heap.size + 1, 0, none⟩) (show w.heap.size ≠ w.heap.size + 1 from by omega) (.int .i64 a)).setOther (a := ⟨w.heap.size + 1, 1, none⟩) (show w.heap.size ≠ w.heap.size + 1 from by omega) (.slice b4 n4 c4)
    have hTz := (hTF.set_ 0 (.int .i64 a)).set_ 1 (.slice b4 n4 c4)
    have r0 : ((((we.setCell ⟨w.heap.size, 0, none⟩ (.int .i64 z21)).setCell ⟨w.heap.size, 1, none⟩ (.slice b21 n21 c21)).setCell ⟨w.heap.size + 1, 0, none⟩ (.int .i64 a)).setCell ⟨w.heap.size + 1, 1, none⟩ (.slice b4 n4 c4)).cell? ⟨w.heap.size, 0, none⟩ = some (.int .i64 z21) := (by rw [hRz.cell]; rfl)
    have r1 : ((((we.setCell ⟨w.heap.size, 0, none⟩ (.int .i64 z21)).setCell ⟨w.heap.size, 1, none⟩ (.slice b21 n21 c21)).setCell ⟨w.heap.size + 1, 0, none⟩ (.int .i64 a)).setCell ⟨w.heap.size + 1, 1, none⟩ (.slice b4 n4 c4)).cell? ⟨w.heap.size, 1, none⟩ = some (.slice b21 n21 c21) := (by rw [hRz.cell]; rfl)
    have t0 : ((((we.setCell ⟨w.heap.size, 0, none⟩ (.int .i64 z21)).setCell ⟨w.heap.size, 1, none⟩ (.slice b21 n21 c21)).setCell ⟨w.heap.size + 1, 0, none⟩ (.int .i64 a)).setCell ⟨w.heap.size + 1, 1, none⟩ (.slice b4 n4 c4)).cell? ⟨w.heap.size + 1, 0, none⟩ = some (.int .i64 a) := (by rw [hTz.cell]; rfl)
    have t1 : ((((we.setCell ⟨w.heap.size, 0, none⟩ (.int .i64 z21)).setCell ⟨w.heap.size, 1, none⟩ (.slice b21 n21 c21)).setCell ⟨w.heap.size + 1, 0, none⟩ (.int .i64 a)).setCell ⟨w.heap.size + 1, 1, none⟩ (.slice b4 n4 c4)).cell? ⟨w.heap.size + 1, 1, none⟩ = some (.slice b4 n4 c4) := (by rw [hTz.cell]; rfl)
    go_wp2
    refine bodyPost_ret (v := .tuple #[.agg #[.int .i64 z21, .slice b21 n21 c21], .agg #[.int .i64 a, .slice b4 n4 c4]]) (by simp [results, Tryz.results86, go_sem, r0, r1, t0, t1]) rfl ⟨z21, .slice b21 n21 c21, l21, a, .slice b4 n4 c4, lx, rfl, ?_, hf21, ⟨by omega, by omega⟩, by omega, ?_, hfx, hfa, by omega, ?_⟩
    ·
     have hne : ∀ k, (.slice b21 n21 c21 : Value).ownBlock = some k → k ≠ w.heap.size := fun k hk => by have := (hOE.block_lt hk).1; omega
     have hne1 : ∀ k, (.slice b21 n21 c21 : Value).ownBlock = some k → k ≠ w.heap.size + 1 := fun k hk => by have := (hOE.block_lt hk).1; omega
     exact ((((hOE.setCell (a := ⟨w.heap.size, 0, none⟩) hne _).setCell (a := ⟨w.heap.size, 1, none⟩) hne _).setCell (a := ⟨w.heap.size + 1, 0, none⟩) hne1 _).setCell (a := ⟨w.heap.size + 1, 1, none⟩) hne1 _).low (by omega)
    ·
     have hne : ∀ k, (.slice b4 n4 c4 : Value).ownBlock = some k → k ≠ w.heap.size := fun k hk => by have := (hNE.block_lt hk).1; omega
     have hne1 : ∀ k, (.slice b4 n4 c4 : Value).ownBlock = some k → k ≠ w.heap.size + 1 := fun k hk => by have := (hNE.block_lt hk).1; omega
     exact ((((hNE.setCell (a := ⟨w.heap.size, 0, none⟩) hne _).setCell (a := ⟨w.heap.size, 1, none⟩) hne _).setCell (a := ⟨w.heap.size + 1, 0, none⟩) hne1 _).setCell (a := ⟨w.heap.size + 1, 1, none⟩) hne1 _).low (by omega)
    ·
     have hbE : Below w.heap.size we ((((we.setCell ⟨w.heap.size, 0, none⟩ (.int .i64 z21)).setCell ⟨w.heap.size, 1, none⟩ (.slice b21 n21 c21)).setCell ⟨w.heap.size + 1, 0, none⟩ (.int .i64 a)).setCell ⟨w.heap.size + 1, 1, none⟩ (.slice b4 n4 c4)) := ((((Below.refl w.heap.size we).setCell (Nat.le_refl _) _).setCell (Nat.le_refl _) _).setCell (Nat.le_succ _) _).setCell (Nat.le_succ _) _
     exact ⟨belowKeeps hgrE hbE (Nat.le_refl _), _, by omega, by omega, hqE.belowR hbE hgl⟩
   ·
    have e9 : ((k20 : Int) == 0) = false := by simp; omega
    go_wp2
    have hXE := hX20.next (Below.refl _ w20).drew
    have hYE := hY20.next (Below.refl _ w20).drew
    have hRE := hR20.next (Below.refl _ w20).drew
    have hTE := hT20.next (Below.refl _ w20).drew
    have hOE := hO20.next (Below.refl _ w20).drew
    have hNE := hN20.next (Below.refl _ w20).drew
    have hqE := hq20.next (Below.refl _ w20).drew
    have hgrE := grown_call hgr20 (Below.refl _ w20).drew
    refine wp_region_held_drew (S := (fun W => W.cell? ⟨sv, 0, none⟩ = some (.int .i64 z) ∧ W.cell? ⟨sv, 1, none⟩ = some (.slice b1 l.length c1) ∧ W.cell? ⟨sw, 0, none⟩ = some (.int .i64 a) ∧ W.cell? ⟨sw, 1, none⟩ = some (.slice b4 n4 c4))) (by kernel_rfl) ?_ (fun hHeld => ?_)
    focus ((try dsimp only); (exact ⟨by rw [hXE.cell]; rfl, by rw [hXE.cell]; rfl, by rw [hYE.cell]; rfl, by rw [hYE.cell]; rfl⟩))
    obtain ⟨we, HWE⟩ : ∃ we, Hid (w20.drew = we) := ⟨_, Lib.hid rfl⟩
    rw [HWE.out] at hHeld hXE hYE hRE hTE hOE hNE hqE hgrE
    rw [HWE.out]
    refine tk 0 ?_
    refine tk 1 ?_
    have d0 : we.cell? ⟨w.heap.size, 0, none⟩ = some (.int .i64 0) := (by rw [hRE.cell]; rfl)
    have d1 : we.cell? ⟨w.heap.size, 1, none⟩ = some (.slice none 0 0) := (by rw [hRE.cell]; rfl)
    have df0 := hRE.free 0
    have df1 := hRE.free 1
    have hXF := (hXE.setOther (a := ⟨w.heap.size, 0, none⟩) (show sv ≠ w.heap.size from by omega) (.int .i64 z)).setOther (a := ⟨w.heap.size, 1, none⟩) (show sv ≠ w.heap.size from by omega) (.slice b1 l.length c1)
    have hYF := (hYE.setOther (a := ⟨w.heap.size, 0, none⟩) (show sw ≠ w.heap.size from by omega) (.int .i64 z)).setOther (a := ⟨w.heap.size, 1, none⟩) (show sw ≠ w.heap.size from by omega) (.slice b1 l.length c1)
    have hTF := (hTE.setOther (a := ⟨w.heap.size, 0, none⟩) (show w.heap.size + 1 ≠ w.heap.size from by omega) (.int .i64 z)).setOther (a := ⟨w.heap.size, 1, none⟩) (show w.heap.size + 1 ≠ w.heap.size from by omega) (.slice b1 l.length c1)
    refine rd1 2 (fun K hK => ?_)
    go_simp
    refine hK.out _ _ ?_ (fun hHeld => ?_)
    focus ((try dsimp only); (exact ⟨by rw [hXF.cell]; rfl, by rw [hXF.cell]; rfl, by rw [hYF.cell]; rfl, by rw [hYF.cell]; rfl⟩))
    clear hK K
    try simp only [Act.put, pa, pb, pc]
    clear d0 d1 df0 df1
    have d0 : ((we.setCell ⟨w.heap.size, 0, none⟩ (.int .i64 z)).setCell ⟨w.heap.size, 1, none⟩ (.slice b1 l.length c1)).cell? ⟨w.heap.size + 1, 0, none⟩ = some (.int .i64 0) := (by rw [hTF.cell]; rfl)
    have d1 : ((we.setCell ⟨w.heap.size, 0, none⟩ (.int .i64 z)).setCell ⟨w.heap.size, 1, none⟩ (.slice b1 l.length c1)).cell? ⟨w.heap.size + 1, 1, none⟩ = some (.slice none 0 0) := (by rw [hTF.cell]; rfl)
    have df0 := hTF.free 0
    have df1 := hTF.free 1
    have hXG := (hXF.setOther (a := ⟨w.heap.size + 1, 0, none⟩) (show sv ≠ w.heap.size + 1 from by omega) (.int .i64 a)).setOther (a := ⟨w.heap.size + 1, 1, none⟩) (show sv ≠ w.heap.size + 1 from by omega) (.slice b4 n4 c4)
    have hYG := (hYF.setOther (a := ⟨w.heap.size + 1, 0, none⟩) (show sw ≠ w.heap.size + 1 from by omega) (.int .i64 a)).setOther (a := ⟨w.heap.size + 1, 1, none⟩) (show sw ≠ w.heap.size + 1 from by omega) (.slice b4 n4 c4)
    refine rd1 3 (fun K hK => ?_)
    go_simp
    refine hK.out _ _ ?_ (fun hHeld => ?_)
    focus ((try dsimp only); (exact ⟨by rw [hXG.cell]; rfl, by rw [hXG.cell]; rfl, by rw [hYG.cell]; rfl, by rw [hYG.cell]; rfl⟩))
    clear hK K
    try simp only [Act.put, pa, pb, pc]
    clear d0 d1 df0 df1
    refine wpAnyH_done (by kernel_rfl) ?_ _
    have hRz := (((hRE.set_ 0 (.int .i64 z)).set_ 1 (.slice b1 l.length c1)).setOther (a := ⟨w.heap.size + 1, 0, none⟩) (show w.heap.size ≠ w.heap.size + 1 from by omega) (.int .i64 a)).setOther (a := ⟨w.heap.size + 1, 1, none⟩) (show w.heap.size ≠ w.heap.size + 1 from by omega) (.slice b4 n4 c4)
    have hTz := (hTF.set_ 0 (.int .i64 a)).set_ 1 (.slice b4 n4 c4)
    have r0 : ((((we.setCell ⟨w.heap.size, 0, none⟩ (.int .i64 z)).setCell ⟨w.heap.size, 1, none⟩ (.slice b1 l.length c1)).setCell ⟨w.heap.size + 1, 0, none⟩ (.int .i64 a)).setCell ⟨w.heap.size + 1, 1, none⟩ (.slice b4 n4 c4)).cell? ⟨w.heap.size, 0, none⟩ = some (.int .i64 z) := (by rw [hRz.cell]; rfl)
    have r1 : ((((we.setCell ⟨w.heap.size, 0, none⟩ (.int .i64 z)).setCell ⟨w.heap.size, 1, none⟩ (.slice b1 l.length c1)).setCell ⟨w.heap.size + 1, 0, none⟩ (.int .i64 a)).setCell ⟨w.heap.size + 1, 1, none⟩ (.slice b4 n4 c4)).cell? ⟨w.heap.size, 1, none⟩ = some (.slice b1 l.length c1) := (by rw [hRz.cell]; rfl)
    have t0 : ((((we.setCell ⟨w.heap.size, 0, none⟩ (.int .i64 z)).setCell ⟨w.heap.size, 1, none⟩ (.slice b1 l.length c1)).setCell ⟨w.heap.size + 1, 0, none⟩ (.int .i64 a)).setCell ⟨w.heap.size + 1, 1, none⟩ (.slice b4 n4 c4)).cell? ⟨w.heap.size + 1, 0, none⟩ = some (.int .i64 a) := (by rw [hTz.cell]; rfl)
    have t1 : ((((we.setCell ⟨w.heap.size, 0, none⟩ (.int .i64 z)).setCell ⟨w.heap.size, 1, none⟩ (.slice b1 l.length c1)).setCell ⟨w.heap.size + 1, 0, none⟩ (.int .i64 a)).setCell ⟨w.heap.size + 1, 1, none⟩ (.slice b4 n4 c4)).cell? ⟨w.heap.size + 1, 1, none⟩ = some (.slice b4 n4 c4) := (by rw [hTz.cell]; rfl)
    go_wp2
    refine bodyPost_ret (v := .tuple #[.agg #[.int .i64 z, .slice b1 l.length c1], .agg #[.int .i64 a, .slice b4 n4 c4]]) (by simp [results, Tryz.results86, go_sem, r0, r1, t0, t1]) rfl ⟨z, .slice b1 l.length c1, l, a, .slice b4 n4 c4, lx, rfl, ?_, hf, ⟨by omega, by omega⟩, by omega, ?_, hfx, hfa, by omega, ?_⟩
    ·
     have hne : ∀ k, (.slice b1 l.length c1 : Value).ownBlock = some k → k ≠ w.heap.size := fun k hk => by have := (hOE.block_lt hk).1; omega
     have hne1 : ∀ k, (.slice b1 l.length c1 : Value).ownBlock = some k → k ≠ w.heap.size + 1 := fun k hk => by have := (hOE.block_lt hk).1; omega
     exact ((((hOE.setCell (a := ⟨w.heap.size, 0, none⟩) hne _).setCell (a := ⟨w.heap.size, 1, none⟩) hne _).setCell (a := ⟨w.heap.size + 1, 0, none⟩) hne1 _).setCell (a := ⟨w.heap.size + 1, 1, none⟩) hne1 _).low (by omega)
    ·
     have hne : ∀ k, (.slice b4 n4 c4 : Value).ownBlock = some k → k ≠ w.heap.size := fun k hk => by have := (hNE.block_lt hk).1; omega
     have hne1 : ∀ k, (.slice b4 n4 c4 : Value).ownBlock = some k → k ≠ w.heap.size + 1 := fun k hk => by have := (hNE.block_lt hk).1; omega
     exact ((((hNE.setCell (a := ⟨w.heap.size, 0, none⟩) hne _).setCell (a := ⟨w.heap.size, 1, none⟩) hne _).setCell (a := ⟨w.heap.size + 1, 0, none⟩) hne1 _).setCell (a := ⟨w.heap.size + 1, 1, none⟩) hne1 _).low (by omega)
    ·
     have hbE : Below w.heap.size we ((((we.setCell ⟨w.heap.size, 0, none⟩ (.int .i64 z)).setCell ⟨w.heap.size, 1, none⟩ (.slice b1 l.length c1)).setCell ⟨w.heap.size + 1, 0, none⟩ (.int .i64 a)).setCell ⟨w.heap.size + 1, 1, none⟩ (.slice b4 n4 c4)) := ((((Below.refl w.heap.size we).setCell (Nat.le_refl _) _).setCell (Nat.le_refl _) _).setCell (Nat.le_succ _) _).setCell (Nat.le_succ _) _
     exact ⟨belowKeeps hgrE hbE (Nat.le_refl _), _, by omega, by omega, hqE.belowR hbE hgl⟩
  ·
   go_wp2_with fail
   refine (specWritesOk b8 c8 lw w8 hfw hg1 hg2 hg3).mono ?_
   rintro e w9 ⟨rfl, hb9⟩
   rw [hok]
   have hR9 := hR8.next hb9
   have hT9 := hT8.next hb9
   have hX9 := hX8.next hb9
   have hY9 := hY8.next hb9
   have hO9 := hO8.next hb9
   have hN9 := hN8.next hb9
   have hq9 := hq8.next hb9
   have hgr9 := grown_call hgr8 hb9
   have hW9 := hg3.next hb9
   have x0 : w9.cell? ⟨sv, 0, none⟩ = some (.int .i64 z) := (by rw [hX9.cell]; rfl)
   have x1 : w9.cell? ⟨sv, 1, none⟩ = some (.slice b1 l.length c1) := (by rw [hX9.cell]; rfl)
   have xf0 := hX9.free 0
   have xf1 := hX9.free 1
   have hbd := do_bounds (z := z) (ws := lw) hf hfw (by omega) (by omega) (by omega) (by omega)
   obtain ⟨RZ, RL, RB, HRR⟩ : ∃ RZ RL RB, Hid (doZ z l lw = RZ ∧ doL z l lw = RL ∧ doB z l lw = RB) := ⟨_, _, _, Lib.hid ⟨rfl, rfl, rfl⟩⟩
   rw [HRR.out.1, HRR.out.2.1] at hbd
   obtain ⟨⟨hRZ1, hRZ2⟩, hRLl, hRLf⟩ := hbd
   go_wp2_with fail
   refine (l2Do_c z b1 c1 l b8 c8 lw w9 HP.out (writesB_iff.1 hok) hf hfw hg1 hO9.rd'.2.2.2 hW9).mono ?_
   rw [HRR.out.1, HRR.out.2.1, HRR.out.2.2]
   rintro e w10 ⟨v10, rfl, hB10, hb10⟩
   have hs9 := hgr9.size
   have hTl9 := hT9.lt
   have hR10 := hR9.next hb10
   have hT10 := hT9.next hb10
   have hX10 := hX9.next hb10
   have hY10 := hY9.next hb10
   have hO10 := hO9.next hb10
   have hN10 := hN9.next hb10
   have hq10 := hq9.next hb10
   have hgr10 := grown_call hgr9 hb10
   have hB10 := hB10.low (show w.heap.size + 2 ≤ w9.heap.size from by omega)
   obtain ⟨b10, c10, rfl, hj1, hj2, hj3⟩ := hB10.read
   clear hj1 hj2 hj3
   clear x0 x1 xf0 xf1
   have x0 : w10.cell? ⟨sv, 0, none⟩ = some (.int .i64 z) := (by rw [hX10.cell]; rfl)
   have x1 : w10.cell? ⟨sv, 1, none⟩ = some (.slice b1 l.length c1) := (by rw [hX10.cell]; rfl)
   have xf0 := hX10.free 0
   have xf1 := hX10.free 1
   have hX11 := (hX10.set_ 0 (.int .i64 RZ)).set_ 1 (.slice b10 RL.length c10)
   have hY11 := (hY10.setOther (a := ⟨sv, 0, none⟩) (show sw ≠ sv from by omega) (.int .i64 RZ)).setOther (a := ⟨sv, 1, none⟩) (show sw ≠ sv from by omega) (.slice b10 RL.length c10)
   have hR11 := (hR10.setOther (a := ⟨sv, 0, none⟩) (show w.heap.size ≠ sv from by omega) (.int .i64 RZ)).setOther (a := ⟨sv, 1, none⟩) (show w.heap.size ≠ sv from by omega) (.slice b10 RL.length c10)
   have hT11 := (hT10.setOther (a := ⟨sv, 0, none⟩) (show w.heap.size + 1 ≠ sv from by omega) (.int .i64 RZ)).setOther (a := ⟨sv, 1, none⟩) (show w.heap.size + 1 ≠ sv from by omega) (.slice b10 RL.length c10)
   have hO11 := (hB10.setCell (a := ⟨sv, 0, none⟩) (fun k hk e => by obtain ⟨cs, hcs⟩ := hB10.blk_of hk; exact hX10.ne hcs typesVV e.symm) (.int .i64 RZ)).setCell (a := ⟨sv, 1, none⟩) (fun k hk e => by obtain ⟨cs, hcs⟩ := hB10.blk_of hk; exact hX10.ne hcs typesVV e.symm) (.slice b10 RL.length c10)
   have hN11 := (hN10.setCell (a := ⟨sv, 0, none⟩) (fun k hk e => by obtain ⟨cs, hcs⟩ := hN10.blk_of hk; exact hX10.ne hcs typesVX e.symm) (.int .i64 RZ)).setCell (a := ⟨sv, 1, none⟩) (fun k hk e => by obtain ⟨cs, hcs⟩ := hN10.blk_of hk; exact hX10.ne hcs typesVX e.symm) (.slice b10 RL.length c10)
   have hbS11 : Below w.heap.size w10 ((w10.setCell ⟨sv, 0, none⟩ (.int .i64 RZ)).setCell ⟨sv, 1, none⟩ (.slice b10 RL.length c10)) := ((Below.refl _ _).setCell (show w.heap.size ≤ sv from by omega) _).setCell (show w.heap.size ≤ sv from by omega) _
   have hgr11 := belowKeeps hgr10 hbS11 (Nat.le_refl _)
   have hq11 := hq10.belowR hbS11 hgl
   have hX11 : Blk ((w10.setCell ⟨sv, 0, none⟩ (.int .i64 RZ)).setCell ⟨sv, 1, none⟩ (.slice b10 RL.length c10)) sv 34 #[.int .i64 RZ, .slice b10 RL.length c10] := hX11.cast rfl
   clear hX6 hY6 hR6 hT6 hO6 hN6 hq6 hgr6 hX7 hY7 hR7 hT7 hO7 hN7 hq7 hgr7 hX8 hY8 hR8 hT8 hO8 hN8 hq8 hgr8 hX9 hY9 hR9 hT9 hO9 hN9 hq9 hgr9
   go_wp2_with fail
   refine (pick_d g A n c q8 10 _ hq11 (by omega) (by omega) (by omega)).mono ?_
   rintro e w20 ⟨k20, rfl, hk20, hd20⟩
   obtain ⟨q20, h201, h202, hq20⟩ := hd20.rdr
   have hR20 := hR11.drawn (by omega) hd20.grown
   have hT20 := hT11.drawn (by omega) hd20.grown
   have hX20 := hX11.drawn (by omega) hd20.grown
   have hY20 := hY11.drawn (by omega) hd20.grown
   have hO20 := hO11.drawn (show g < w.heap.size + 2 from by omega) hd20.grown
   have hN20 := hN11.drawn (show g < w.heap.size + 2 from by omega) hd20.grown
   have hgr20 := hgr11.trans hd20.grown
   clear hX11 hY11 hR11 hT11 hO11 hN11 hq11 hgr11 hd20
   by_cases hk9 : k20 = 0
   ·
    have e9 : ((k20 : Int) == 0) = true := by simp [hk9]
    have x0 : w20.cell? ⟨sv, 0, none⟩ = some (.int .i64 RZ) := (by rw [hX20.cell]; rfl)
    have x1 : w20.cell? ⟨sv, 1, none⟩ = some (.slice b10 RL.length c10) := (by rw [hX20.cell]; rfl)
    have xf0 := hX20.free 0
    have xf1 := hX20.free 1
    go_wp2_with fail
    refine (bentV_d g A n c q20 RZ b10 c10 RL 10 w20 hq20 (by omega) hRLf (by omega) (by omega) (by omega) (by omega) hO20.rd'.2.2.2).mono ?_
    rintro e w21 ⟨z21, v21, l21, rfl, hB21, hf21, ⟨hz211, hz212⟩, hl21, hd21⟩
    obtain ⟨q21, h211, h212, hq21⟩ := hd21.rdr
    have hs20 := hgr20.size
    have hTl20 := hT20.lt
    have hR21 := hR20.drawn (by omega) hd21.grown
    have hT21 := hT20.drawn (by omega) hd21.grown
    have hX21 := hX20.drawn (by omega) hd21.grown
    have hY21 := hY20.drawn (by omega) hd21.grown
    have hO21 := hO20.drawn (show g < w.heap.size + 2 from by omega) hd21.grown
    have hN21 := hN20.drawn (show g < w.heap.size + 2 from by omega) hd21.grown
    have hgr21 := hgr20.trans hd21.grown
    have hB21 := hB21.low (show w.heap.size + 2 ≤ w20.heap.size from by omega)
    obtain ⟨b21, n21, c21, rfl⟩ := hB21.slice
    clear x0 x1 xf0 xf1
    have x0 : w21.cell? ⟨sv, 0, none⟩ = some (.int .i64 RZ) := (by rw [hX21.cell]; rfl)
    have x1 : w21.cell? ⟨sv, 1, none⟩ = some (.slice b10 RL.length c10) := (by rw [hX21.cell]; rfl)
    have xf0 := hX21.free 0
    have xf1 := hX21.free 1
    have hX22 := (hX21.set_ 0 (.int .i64 z21)).set_ 1 (.slice b21 n21 c21)
    have hY22 := (hY21.setOther (a := ⟨sv, 0, none⟩) (show sw ≠ sv from by omega) (.int .i64 z21)).setOther (a := ⟨sv, 1, none⟩) (show sw ≠ sv from by omega) (.slice b21 n21 c21)
    have hR22 := (hR21.setOther (a := ⟨sv, 0, none⟩) (show w.heap.size ≠ sv from by omega) (.int .i64 z21)).setOther (a := ⟨sv, 1, none⟩) (show w.heap.size ≠ sv from by omega) (.slice b21 n21 c21)
    have hT22 := (hT21.setOther (a := ⟨sv, 0, none⟩) (show w.heap.size + 1 ≠ sv from by omega) (.int .i64 z21)).setOther (a := ⟨sv, 1, none⟩) (show w.heap.size + 1 ≠ sv from by omega) (.slice b21 n21 c21)
    have hO22 := (hB21.setCell (a := ⟨sv, 0, none⟩) (fun k hk e => by obtain ⟨cs, hcs⟩ := hB21.blk_of hk; exact hX21.ne hcs typesVV e.symm) (.int .i64 z21)).setCell (a := ⟨sv, 1, none⟩) (fun k hk e => by obtain ⟨cs, hcs⟩ := hB21.blk_of hk; exact hX21.ne hcs typesVV e.symm) (.slice b21 n21 c21)
    have hN22 := (hN21.setCell (a := ⟨sv, 0, none⟩) (fun k hk e => by obtain ⟨cs, hcs⟩ := hN21.blk_of hk; exact hX21.ne hcs typesVX e.symm) (.int .i64 z21)).setCell (a := ⟨sv, 1, none⟩) (fun k hk e => by obtain ⟨cs, hcs⟩ := hN21.blk_of hk; exact hX21.ne hcs typesVX e.symm) (.slice b21 n21 c21)
    have hbS22 : Below w.heap.size w21 ((w21.setCell ⟨sv, 0, none⟩ (.int .i64 z21)).setCell ⟨sv, 1, none⟩ (.slice b21 n21 c21)) := ((Below.refl _ _).setCell (show w.heap.size ≤ sv from by omega) _).setCell (show w.heap.size ≤ sv from by omega) _
    have hgr22 := belowKeeps hgr21 hbS22 (Nat.le_refl _)
    have hq22 := hq21.belowR hbS22 hgl
    have hX22 : Blk ((w21.setCell ⟨sv, 0, none⟩ (.int .i64 z21)).setCell ⟨sv, 1, none⟩ (.slice b21 n21 c21)) sv 34 #[.int .i64 z21, .slice b21 n21 c21] := hX22.cast rfl
    have y0 : ((w21.setCell ⟨sv, 0, none⟩ (.int .i64 z21)).setCell ⟨sv, 1, none⟩ (.slice b21 n21 c21)).cell? ⟨sv, 0, none⟩ = some (.int .i64 z21) := (by rw [hX22.cell]; rfl)
    go_wp2
    have hXE := hX22.next (Below.refl _ ((w21.setCell ⟨sv, 0, none⟩ (.int .i64 z21)).setCell ⟨sv, 1, none⟩ (.slice b21 n21 c21))).drew
    have hYE := hY22.next (Below.refl _ ((w21.setCell ⟨sv, 0, none⟩ (.int .i64 z21)).setCell ⟨sv, 1, none⟩ (.slice b21 n21 c21))).drew
    have hRE := hR22.next (Below.refl _ ((w21.setCell ⟨sv, 0, none⟩ (.int .i64 z21)).setCell ⟨sv, 1, none⟩ (.slice b21 n21 c21))).drew
    have hTE := hT22.next (Below.refl _ ((w21.setCell ⟨sv, 0, none⟩ (.int .i64 z21)).setCell ⟨sv, 1, none⟩ (.slice b21 n21 c21))).drew
    have hOE := hO22.next (Below.refl _ ((w21.setCell ⟨sv, 0, none⟩ (.int .i64 z21)).setCell ⟨sv, 1, none⟩ (.slice b21 n21 c21))).drew
    have hNE := hN22.next (Below.refl _ ((w21.setCell ⟨sv, 0, none⟩ (.int .i64 z21)).setCell ⟨sv, 1, none⟩ (.slice b21 n21 c21))).drew
    have hqE := hq22.next (Below.refl _ ((w21.setCell ⟨sv, 0, none⟩ (.int .i64 z21)).setCell ⟨sv, 1, none⟩ (.slice b21 n21 c21))).drew
    have hgrE := grown_call hgr22 (Below.refl _ ((w21.setCell ⟨sv, 0, none⟩ (.int .i64 z21)).setCell ⟨sv, 1, none⟩ (.slice b21 n21 c21))).drew
    refine wp_region_held_drew (S := (fun W => W.cell? ⟨sv, 0, none⟩ = some (.int .i64 z21) ∧ W.cell? ⟨sv, 1, none⟩ = some (.slice b21 n21 c21) ∧ W.cell? ⟨sw, 0, none⟩ = some (.int .i64 a) ∧ W.cell? ⟨sw, 1, none⟩ = some (.slice b4 n4 c4))) (by kernel_rfl) ?_ (fun hHeld => ?_)
    focus ((try dsimp only); (exact ⟨by rw [hXE.cell]; rfl, by rw [hXE.cell]; rfl, by rw [hYE.cell]; rfl, by rw [hYE.cell]; rfl⟩))
    obtain ⟨we, HWE⟩ : ∃ we, Hid (((w21.setCell ⟨sv, 0, none⟩ (.int .i64 z21)).setCell ⟨sv, 1, none⟩ (.slice b21 n21 c21)).drew = we) := ⟨_, Lib.hid rfl⟩
    rw [HWE.out] at hHeld hXE hYE hRE hTE hOE hNE hqE hgrE
    rw [HWE.out]
    refine tk 0 ?_
    refine tk 1 ?_
    have d0 : we.cell? ⟨w.heap.size, 0, none⟩ = some (.int .i64 0) := (by rw [hRE.cell]; rfl)
    have d1 : we.cell? ⟨w.heap.size, 1, none⟩ = some (.slice none 0 0) := (by rw [hRE.cell]; rfl)
    have df0 := hRE.free 0
    have df1 := hRE.free 1
    have hXF := (hXE.setOther (a := ⟨w.heap.size, 0, none⟩) (show sv ≠ w.heap.size from by omega) (.int .i64 z21)).setOther (a := ⟨w.heap.size, 1, none⟩) (show sv ≠ w.heap.size from by omega) (.slice b21 n21 c21)
    have hYF := (hYE.setOther (a := ⟨w.heap.size, 0, none⟩) (show sw ≠ w.heap.size from by omega) (.int .i64 z21)).setOther (a := ⟨w.heap.size, 1, none⟩) (show sw ≠ w.heap.size from by omega) (.slice b21 n21 c21)
    have hTF := (hTE.setOther (a := ⟨w.heap.size, 0, none⟩) (show w.heap.size + 1 ≠ w.heap.size from by omega) (.int .i64 z21)).setOther (a := ⟨w.heap.size, 1, none⟩) (show w.heap.size + 1 ≠ w.heap.size from by omega) (.slice b21 n21 c21)
    refine rd1 2 (fun K hK => ?_)
    go_simp
    refine hK.out _ _ ?_ (fun hHeld => ?_)
    focus ((try dsimp only); (exact ⟨by rw [hXF.cell]; rfl, by rw [hXF.cell]; rfl, by rw [hYF.cell]; rfl, by rw [hYF.cell]; rfl⟩))
    clear hK K
    try simp only [Act.put, pa, pb, pc]
    clear d0 d1 df0 df1
    have d0 : ((we.setCell ⟨w.heap.size, 0, none⟩ (.int .i64 z21)).setCell ⟨w.heap.size, 1, none⟩ (.slice b21 n21 c21)).cell? ⟨w.heap.size + 1, 0, none⟩ = some (.int .i64 0) := (by rw [hTF.cell]; rfl)
    have d1 : ((we.setCell ⟨w.heap.size, 0, none⟩ (.int .i64 z21)).setCell ⟨w.heap.size, 1, none⟩ (.slice b21 n21 c21)).cell? ⟨w.heap.size + 1, 1, none⟩ = some (.slice none 0 0) := (by rw [hTF.cell]; rfl)
    have df0 := hTF.free 0
    have df1 := hTF.free 1
    have hXG := (hXF.setOther (a := ⟨w.heap.size + 1, 0, none⟩) (show sv ≠ w.heap.size + 1 from by omega) (.int .i64 a)).setOther (a := ⟨w.heap.size + 1, 1, none⟩) (show sv ≠ w.heap.size + 1 from by omega) (.slice b4 n4 c4)
    have hYG := (hYF.setOther (a := ⟨w.heap.size + 1, 0, none⟩) (show sw ≠ w.heap.size + 1 from by omega) (.int .i64 a)).setOther (a := ⟨w.heap.size + 1, 1, none⟩) (show sw ≠ w.heap.size + 1 from by omega) (.slice b4 n4 c4)
    refine rd1 3 (fun K hK => ?_)
    go_simp
    refine hK.out _ _ ?_ (fun hHeld => ?_)
    focus ((try dsimp only); (exact ⟨by rw [hXG.cell]; rfl, by rw [hXG.cell]; rfl, by rw [hYG.cell]; rfl, by rw [hYG.cell]; rfl⟩))
    clear hK K
    try simp only [Act.put, pa, pb, pc]
    clear d0 d1 df0 df1
    refine wpAnyH_done (by kernel_rfl) ?_ _
    have hRz := (((hRE.set_ 0 (.int .i64 z21)).set_ 1 (.slice b21 n21 c21)).setOther (a := ⟨w.heap.size + 1, 0, none⟩) (show w.heap.size ≠ w.heap.size + 1 from by omega) (.int .i64 a)).setOther (a := ⟨w.heap.size + 1, 1, none⟩) (show w.heap.size ≠ w.heap.size + 1 from by omega) (.slice b4 n4 c4)
    have hTz := (hTF.set_ 0 (.int .i64 a)).set_ 1 (.slice b4 n4 c4)
    have r0 : ((((we.setCell ⟨w.heap.size, 0, none⟩ (.int .i64 z21)).setCell ⟨w.heap.size, 1, none⟩ (.slice b21 n21 c21)).setCell ⟨w.heap.size + 1, 0, none⟩ (.int .i64 a)).setCell ⟨w.heap.size + 1, 1, none⟩ (.slice b4 n4 c4)).cell? ⟨w.heap.size, 0, none⟩ = some (.int .i64 z21) := (by rw [hRz.cell]; rfl)
    have r1 : ((((we.setCell ⟨w.heap.size, 0, none⟩ (.int .i64 z21)).setCell ⟨w.heap.size, 1, none⟩ (.slice b21 n21 c21)).setCell ⟨w.heap.size + 1, 0, none⟩ (.int .i64 a)).setCell ⟨w.heap.size + 1, 1, none⟩ (.slice b4 n4 c4)).cell? ⟨w.heap.size, 1, none⟩ = some (.slice b21 n21 c21) := (by rw [hRz.cell]; rfl)
    have t0 : ((((we.setCell ⟨w.heap.size, 0, none⟩ (.int .i64 z21)).setCell ⟨w.heap.size, 1, none⟩ (.slice b21 n21 c21)).setCell ⟨w.heap.size + 1, 0, none⟩ (.int .i64 a)).setCell ⟨w.heap.size + 1, 1, none⟩ (.slice b4 n4 c4)).cell? ⟨w.heap.size + 1, 0, none⟩ = some (.int .i64 a) := (by rw [hTz.cell]; rfl)
    have t1 : ((((we.setCell ⟨w.heap.size, 0, none⟩ (.int .i64 z21)).setCell ⟨w.heap.size, 1, none⟩ (.slice b21 n21 c21)).setCell ⟨w.heap.size + 1, 0, none⟩ (.int .i64 a)).setCell ⟨w.heap.size + 1, 1, none⟩ (.slice b4 n4 c4)).cell? ⟨w.heap.size + 1, 1, none⟩ = some (.slice b4 n4 c4) := (by rw [hTz.cell]; rfl)
    go_wp2
    refine bodyPost_ret (v := .tuple #[.agg #[.int .i64 z21, .slice b21 n21 c21], .agg #[.int .i64 a, .slice b4 n4 c4]]) (by simp [results, Tryz.results86, go_sem, r0, r1, t0, t1]) rfl ⟨z21, .slice b21 n21 c21, l21, a, .slice b4 n4 c4, lx, rfl, ?_, hf21, ⟨by omega, by omega⟩, by omega, ?_, hfx, hfa, by omega, ?_⟩
    ·
     have hne : ∀ k, (.slice b21 n21 c21 : Value).ownBlock = some k → k ≠ w.heap.size := fun k hk => by have := (hOE.block_lt hk).1; omega
     have hne1 : ∀ k, (.slice b21 n21 c21 : Value).ownBlock = some k → k ≠ w.heap.size + 1 := fun k hk => by have := (hOE.block_lt hk).1; omega
     exact ((((hOE.setCell (a := ⟨w.heap.size, 0, none⟩) hne _).setCell (a := ⟨w.heap.size, 1, none⟩) hne _).setCell (a := ⟨w.heap.size + 1, 0, none⟩) hne1 _).setCell (a := ⟨w.heap.size + 1, 1, none⟩) hne1 _).low (by omega)
    ·
     have hne : ∀ k, (.slice b4 n4 c4 : Value).ownBlock = some k → k ≠ w.heap.size := fun k hk => by have := (hNE.block_lt hk).1; omega
     have hne1 : ∀ k, (.slice b4 n4 c4 : Value).ownBlock = some k → k ≠ w.heap.size + 1 := fun k hk => by have := (hNE.block_lt hk).1; omega
     exact ((((hNE.setCell (a := ⟨w.heap.size, 0, none⟩) hne _).setCell (a := ⟨w.heap.size, 1, none⟩) hne _).setCell (a := ⟨w.heap.size + 1, 0, none⟩) hne1 _).setCell (a := ⟨w.heap.size + 1, 1, none⟩) hne1 _).low (by omega)
    ·
     have hbE : Below w.heap.size we ((((we.setCell ⟨w.heap.size, 0, none⟩ (.int .i64 z21)).setCell ⟨w.heap.size, 1, none⟩ (.slice b21 n21 c21)).setCell ⟨w.heap.size + 1, 0, none⟩ (.int .i64 a)).setCell ⟨w.heap.size + 1, 1, none⟩ (.slice b4 n4 c4)) := ((((Below.refl w.heap.size we).setCell (Nat.le_refl _) _).setCell (Nat.le_refl _) _).setCell (Nat.le_succ _) _).setCell (Nat.le_succ _) _
     exact ⟨belowKeeps hgrE hbE (Nat.le_refl _), _, by omega, by omega, hqE.belowR hbE hgl⟩
   ·
    have e9 : ((k20 : Int) == 0) = false := by simp; omega
    go_wp2
    have hXE := hX20.next (Below.refl _ w20).drew
    have hYE := hY20.next (Below.refl _ w20).drew
    have hRE := hR20.next (Below.refl _ w20).drew
    have hTE := hT20.next (Below.refl _ w20).drew
    have hOE := hO20.next (Below.refl _ w20).drew
    have hNE := hN20.next (Below.refl _ w20).drew
    have hqE := hq20.next (Below.refl _ w20).drew
    have hgrE := grown_call hgr20 (Below.refl _ w20).drew
    refine wp_region_held_drew (S := (fun W => W.cell? ⟨sv, 0, none⟩ = some (.int .i64 RZ) ∧ W.cell? ⟨sv, 1, none⟩ = some (.slice b10 RL.length c10) ∧ W.cell? ⟨sw, 0, none⟩ = some (.int .i64 a) ∧ W.cell? ⟨sw, 1, none⟩ = some (.slice b4 n4 c4))) (by kernel_rfl) ?_ (fun hHeld => ?_)
    focus ((try dsimp only); (exact ⟨by rw [hXE.cell]; rfl, by rw [hXE.cell]; rfl, by rw [hYE.cell]; rfl, by rw [hYE.cell]; rfl⟩))
    obtain ⟨we, HWE⟩ : ∃ we, Hid (w20.drew = we) := ⟨_, Lib.hid rfl⟩
    rw [HWE.out] at hHeld hXE hYE hRE hTE hOE hNE hqE hgrE
    rw [HWE.out]
    refine tk 0 ?_
    refine tk 1 ?_
    have d0 : we.cell? ⟨w.heap.size, 0, none⟩ = some (.int .i64 0) := (by rw [hRE.cell]; rfl)
    have d1 : we.cell? ⟨w.heap.size, 1, none⟩ = some (.slice none 0 0) := (by rw [hRE.cell]; rfl)
    have df0 := hRE.free 0
    have df1 := hRE.free 1
    have hXF := (hXE.setOther (a := ⟨w.heap.size, 0, none⟩) (show sv ≠ w.heap.size from by omega) (.int .i64 RZ)).setOther (a := ⟨w.heap.size, 1, none⟩) (show sv ≠ w.heap.size from by omega) (.slice b10 RL.length c10)
    have hYF := (hYE.setOther (a := ⟨w.heap.size, 0, none⟩) (show sw ≠ w.heap.size from by omega) (.int .i64 RZ)).setOther (a := ⟨w.heap.size, 1, none⟩) (show sw ≠ w.heap.size from by omega) (.slice b10 RL.length c10)
    have hTF := (hTE.setOther (a := ⟨w.heap.size, 0, none⟩) (show w.heap.size + 1 ≠ w.heap.size from by omega) (.int .i64 RZ)).setOther (a := ⟨w.heap.size, 1, none⟩) (show w.heap.size + 1 ≠ w.heap.size from by omega) (.slice b10 RL.length c10)
    refine rd1 2 (fun K hK => ?_)
    go_simp
    refine hK.out _ _ ?_ (fun hHeld => ?_)
    focus ((try dsimp only); (exact ⟨by rw [hXF.cell]; rfl, by rw [hXF.cell]; rfl, by rw [hYF.cell]; rfl, by rw [hYF.cell]; rfl⟩))
    clear hK K
    try simp only [Act.put, pa, pb, pc]
    clear d0 d1 df0 df1
    have d0 : ((we.setCell ⟨w.heap.size, 0, none⟩ (.int .i64 RZ)).setCell ⟨w.heap.size, 1, none⟩ (.slice b10 RL.length c10)).cell? ⟨w.heap.size + 1, 0, none⟩ = some (.int .i64 0) := (by rw [hTF.cell]; rfl)
    have d1 : ((we.setCell ⟨w.heap.size, 0, none⟩ (.int .i64 RZ)).setCell ⟨w.heap.size, 1, none⟩ (.slice b10 RL.length c10)).cell? ⟨w.heap.size + 1, 1, none⟩ = some (.slice none 0 0) := (by rw [hTF.cell]; rfl)
    have df0 := hTF.free 0
    have df1 := hTF.free 1
    have hXG := (hXF.setOther (a := ⟨w.heap.size + 1, 0, none⟩) (show sv ≠ w.heap.size + 1 from by omega) (.int .i64 a)).setOther (a := ⟨w.heap.size + 1, 1, none⟩) (show sv ≠ w.heap.size + 1 from by omega) (.slice b4 n4 c4)
    have hYG := (hYF.setOther (a := ⟨w.heap.size + 1, 0, none⟩) (show sw ≠ w.heap.size + 1 from by omega) (.int .i64 a)).setOther (a := ⟨w.heap.size + 1, 1, none⟩) (show sw ≠ w.heap.size + 1 from by omega) (.slice b4 n4 c4)
    refine rd1 3 (fun K hK => ?_)
    go_simp
    refine hK.out _ _ ?_ (fun hHeld => ?_)
    focus ((try dsimp only); (exact ⟨by rw [hXG.cell]; rfl, by rw [hXG.cell]; rfl, by rw [hYG.cell]; rfl, by rw [hYG.cell]; rfl⟩))
    clear hK K
    try simp only [Act.put, pa, pb, pc]
    clear d0 d1 df0 df1
    refine wpAnyH_done (by kernel_rfl) ?_ _
    have hRz := (((hRE.set_ 0 (.int .i64 RZ)).set_ 1 (.slice b10 RL.length c10)).setOther (a := ⟨w.heap.size + 1, 0, none⟩) (show w.heap.size ≠ w.heap.size + 1 from by omega) (.int .i64 a)).setOther (a := ⟨w.heap.size + 1, 1, none⟩) (show w.heap.size ≠ w.heap.size + 1 from by omega) (.slice b4 n4 c4)
    have hTz := (hTF.set_ 0 (.int .i64 a)).set_ 1 (.slice b4 n4 c4)
    have r0 : ((((we.setCell ⟨w.heap.size, 0, none⟩ (.int .i64 RZ)).setCell ⟨w.heap.size, 1, none⟩ (.slice b10 RL.length c10)).setCell ⟨w.heap.size + 1, 0, none⟩ (.int .i64 a)).setCell ⟨w.heap.size + 1, 1, none⟩ (.slice b4 n4 c4)).cell? ⟨w.heap.size, 0, none⟩ = some (.int .i64 RZ) := (by rw [hRz.cell]; rfl)
    have r1 : ((((we.setCell ⟨w.heap.size, 0, none⟩ (.int .i64 RZ)).setCell ⟨w.heap.size, 1, none⟩ (.slice b10 RL.length c10)).setCell ⟨w.heap.size + 1, 0, none⟩ (.int .i64 a)).setCell ⟨w.heap.size + 1, 1, none⟩ (.slice b4 n4 c4)).cell? ⟨w.heap.size, 1, none⟩ = some (.slice b10 RL.length c10) := (by rw [hRz.cell]; rfl)
    have t0 : ((((we.setCell ⟨w.heap.size, 0, none⟩ (.int .i64 RZ)).setCell ⟨w.heap.size, 1, none⟩ (.slice b10 RL.length c10)).setCell ⟨w.heap.size + 1, 0, none⟩ (.int .i64 a)).setCell ⟨w.heap.size + 1, 1, none⟩ (.slice b4 n4 c4)).cell? ⟨w.heap.size + 1, 0, none⟩ = some (.int .i64 a) := (by rw [hTz.cell]; rfl)
    have t1 : ((((we.setCell ⟨w.heap.size, 0, none⟩ (.int .i64 RZ)).setCell ⟨w.heap.size, 1, none⟩ (.slice b10 RL.length c10)).setCell ⟨w.heap.size + 1, 0, none⟩ (.int .i64 a)).setCell ⟨w.heap.size + 1, 1, none⟩ (.slice b4 n4 c4)).cell? ⟨w.heap.size + 1, 1, none⟩ = some (.slice b4 n4 c4) := (by rw [hTz.cell]; rfl)
    go_wp2
    refine bodyPost_ret (v := .tuple #[.agg #[.int .i64 RZ, .slice b10 RL.length c10], .agg #[.int .i64 a, .slice b4 n4 c4]]) (by simp [results, Tryz.results86, go_sem, r0, r1, t0, t1]) rfl ⟨RZ, .slice b10 RL.length c10, RL, a, .slice b4 n4 c4, lx, rfl, ?_, hRLf, ⟨by omega, by omega⟩, by omega, ?_, hfx, hfa, by omega, ?_⟩
    ·
     have hne : ∀ k, (.slice b10 RL.length c10 : Value).ownBlock = some k → k ≠ w.heap.size := fun k hk => by have := (hOE.block_lt hk).1; omega
     have hne1 : ∀ k, (.slice b10 RL.length c10 : Value).ownBlock = some k → k ≠ w.heap.size + 1 := fun k hk => by have := (hOE.block_lt hk).1; omega
     exact ((((hOE.setCell (a := ⟨w.heap.size, 0, none⟩) hne _).setCell (a := ⟨w.heap.size, 1, none⟩) hne _).setCell (a := ⟨w.heap.size + 1, 0, none⟩) hne1 _).setCell (a := ⟨w.heap.size + 1, 1, none⟩) hne1 _).low (by omega)
    ·
     have hne : ∀ k, (.slice b4 n4 c4 : Value).ownBlock = some k → k ≠ w.heap.size := fun k hk => by have := (hNE.block_lt hk).1; omega
     have hne1 : ∀ k, (.slice b4 n4 c4 : Value).ownBlock = some k → k ≠ w.heap.size + 1 := fun k hk => by have := (hNE.block_lt hk).1; omega
     exact ((((hNE.setCell (a := ⟨w.heap.size, 0, none⟩) hne _).setCell (a := ⟨w.heap.size, 1, none⟩) hne _).setCell (a := ⟨w.heap.size + 1, 0, none⟩) hne1 _).setCell (a := ⟨w.heap.size + 1, 1, none⟩) hne1 _).low (by omega)
    ·
     have hbE : Below w.heap.size we ((((we.setCell ⟨w.heap.size, 0, none⟩ (.int .i64 RZ)).setCell ⟨w.heap.size, 1, none⟩ (.slice b10 RL.length c10)).setCell ⟨w.heap.size + 1, 0, none⟩ (.int .i64 a)).setCell ⟨w.heap.size + 1, 1, none⟩ (.slice b4 n4 c4)) := ((((Below.refl w.heap.size we).setCell (Nat.le_refl _) _).setCell (Nat.le_refl _) _).setCell (Nat.le_succ _) _).setCell (Nat.le_succ _) _
     exact ⟨belowKeeps hgrE hbE (Nat.le_refl _), _, by omega, by omega, hqE.belowR hbE hgl⟩
 ·
  have e0 : ((k6 : Int) == 0) = false := by simp; omega
  go_wp2_with fail
  refine (pick_d g A n c q6 10 _ hq6 (by omega) (by omega) (by omega)).mono ?_
  rintro e w20 ⟨k20, rfl, hk20, hd20⟩
  obtain ⟨q20, h201, h202, hq20⟩ := hd20.rdr
  have hR20 := hR6.drawn (by omega) hd20.grown
  have hT20 := hT6.drawn (by omega) hd20.grown
  have hX20 := hX6.drawn (by omega) hd20.grown
  have hY20 := hY6.drawn (by omega) hd20.grown
  have hO20 := hO6.drawn (show g < w.heap.size + 2 from by omega) hd20.grown
  have hN20 := hN6.drawn (show g < w.heap.size + 2 from by omega) hd20.grown
  have hgr20 := hgr6.trans hd20.grown
  clear hX6 hY6 hR6 hT6 hO6 hN6 hq6 hgr6 hd20
  by_cases hk9 : k20 = 0
  ·
   have e9 : ((k20 : Int) == 0) = true := by simp [hk9]
   have x0 : w20.cell? ⟨sv, 0, none⟩ = some (.int .i64 z) := (by rw [hX20.cell]; rfl)
   have x1 : w20.cell? ⟨sv, 1, none⟩ = some (.slice b1 l.length c1) := (by rw [hX20.cell]; rfl)
   have xf0 := hX20.free 0
   have xf1 := hX20.free 1
   go_wp2_with fail
   refine (bentV_d g A n c q20 z b1 c1 l 10 w20 hq20 (by omega) hf (by omega) (by omega) (by omega) (by omega) hO20.rd'.2.2.2).mono ?_
   rintro e w21 ⟨z21, v21, l21, rfl, hB21, hf21, ⟨hz211, hz212⟩, hl21, hd21⟩
   obtain ⟨q21, h211, h212, hq21⟩ := hd21.rdr
   have hs20 := hgr20.size
   have hTl20 := hT20.lt
   have hR21 := hR20.drawn (by omega) hd21.grown
   have hT21 := hT20.drawn (by omega) hd21.grown
   have hX21 := hX20.drawn (by omega) hd21.grown
   have hY21 := hY20.drawn (by omega) hd21.grown
   have hO21 := hO20.drawn (show g < w.heap.size + 2 from by omega) hd21.grown
   have hN21 := hN20.drawn (show g < w.heap.size + 2 from by omega) hd21.grown
   have hgr21 := hgr20.trans hd21.grown
   have hB21 := hB21.low (show w.heap.size + 2 ≤ w20.heap.size from by omega)
   obtain ⟨b21, n21, c21, rfl⟩ := hB21.slice
   clear x0 x1 xf0 xf1
   have x0 : w21.cell? ⟨sv, 0, none⟩ = some (.int .i64 z) := (by rw [hX21.cell]; rfl)
   have x1 : w21.cell? ⟨sv, 1, none⟩ = some (.slice b1 l.length c1) := (by rw [hX21.cell]; rfl)
   have xf0 := hX21.free 0
   have xf1 := hX21.free 1
   have hX22 := (hX21.set_ 0 (.int .i64 z21)).set_ 1 (.slice b21 n21 c21)
   have hY22 := (hY21.setOther (a := ⟨sv, 0, none⟩) (show sw ≠ sv from by omega) (.int .i64 z21)).setOther (a := ⟨sv, 1, none⟩) (show sw ≠ sv from by omega) (.slice b21 n21 c21)
   have hR22 := (hR21.setOther (a := ⟨sv, 0, none⟩) (show w.heap.size ≠ sv from by omega) (.int .i64 z21)).setOther (a := ⟨sv, 1, none⟩) (show w.heap.size ≠ sv from by omega) (.slice b21 n21 c21)
   have hT22 := (hT21.setOther (a := ⟨sv, 0, none⟩) (show w.heap.size + 1 ≠ sv from by omega) (.int .i64 z21)).setOther (a := ⟨sv, 1, none⟩) (show w.heap.size + 1 ≠ sv from by omega) (.slice b21 n21 c21)
   have hO22 := (hB21.setCell (a := ⟨sv, 0, none⟩) (fun k hk e => by obtain ⟨cs, hcs⟩ := hB21.blk_of hk; exact hX21.ne hcs typesVV e.symm) (.int .i64 z21)).setCell (a := ⟨sv, 1, none⟩) (fun k hk e => by obtain ⟨cs, hcs⟩ := hB21.blk_of hk; exact hX21.ne hcs typesVV e.symm) (.slice b21 n21 c21)
   have hN22 := (hN21.setCell (a := ⟨sv, 0, none⟩) (fun k hk e => by obtain ⟨cs, hcs⟩ := hN21.blk_of hk; exact hX21.ne hcs typesVX e.symm) (.int .i64 z21)).setCell (a := ⟨sv, 1, none⟩) (fun k hk e => by obtain ⟨cs, hcs⟩ := hN21.blk_of hk; exact hX21.ne hcs typesVX e.symm) (.slice b21 n21 c21)
   have hbS22 : Below w.heap.size w21 ((w21.setCell ⟨sv, 0, none⟩ (.int .i64 z21)).setCell ⟨sv, 1, none⟩ (.slice b21 n21 c21)) := ((Below.refl _ _).setCell (show w.heap.size ≤ sv from by omega) _).setCell (show w.heap.size ≤ sv from by omega) _
   have hgr22 := belowKeeps hgr21 hbS22 (Nat.le_refl _)
   have hq22 := hq21.belowR hbS22 hgl
   have hX22 : Blk ((w21.setCell ⟨sv, 0, none⟩ (.int .i64 z21)).setCell ⟨sv, 1, none⟩ (.slice b21 n21 c21)) sv 34 #[.int .i64 z21, .slice b21 n21 c21] := hX22.cast rfl
   have y0 : ((w21.setCell ⟨sv, 0, none⟩ (.int .i64 z21)).setCell ⟨sv, 1, none⟩ (.slice b21 n21 c21)).cell? ⟨sv, 0, none⟩ = some (.int .i64 z21) := (by rw [hX22.cell]; rfl)
   go_wp2
   have hXE := hX22.next (Below.refl _ ((w21.setCell ⟨sv, 0, none⟩ (.int .i64 z21)).setCell ⟨sv, 1, none⟩ (.slice b21 n21 c21))).drew
   have hYE := hY22.next (Below.refl _ ((w21.setCell ⟨sv, 0, none⟩ (.int .i64 z21)).setCell ⟨sv, 1, none⟩ (.slice b21 n21 c21))).drew
   have hRE := hR22.next (Below.refl _ ((w21.setCell ⟨sv, 0, none⟩ (.int .i64 z21)).setCell ⟨sv, 1, none⟩ (.slice b21 n21 c21))).drew
   have hTE := hT22.next (Below.refl _ ((w21.setCell ⟨sv, 0, none⟩ (.int .i64 z21)).setCell ⟨sv, 1, none⟩ (.slice b21 n21 c21))).drew
   have hOE := hO22.next (Below.refl _ ((w21.setCell ⟨sv, 0, none⟩ (.int .i64 z21)).setCell ⟨sv, 1, none⟩ (.slice b21 n21 c21))).drew
   have hNE := hN22.next (Below.refl _ ((w21.setCell ⟨sv, 0, none⟩ (.int .i64 z21)).setCell ⟨sv, 1, none⟩ (.slice b21 n21 c21))).drew
   have hqE := hq22.next (Below.refl _ ((w21.setCell ⟨sv, 0, none⟩ (.int .i64 z21)).setCell ⟨sv, 1, none⟩ (.slice b21 n21 c21))).drew
   have hgrE := grown_call hgr22 (Below.refl _ ((w21.setCell ⟨sv, 0, none⟩ (.int .i64 z21)).setCell ⟨sv, 1, none⟩ (.slice b21 n21 c21))).drew
   refine wp_region_held_drew (S := (fun W => W.cell? ⟨sv, 0, none⟩ = some (.int .i64 z21) ∧ W.cell? ⟨sv, 1, none⟩ = some (.slice b21 n21 c21) ∧ W.cell? ⟨sw, 0, none⟩ = some (.int .i64 a) ∧ W.cell? ⟨sw, 1, none⟩ = some (.slice b4 n4 c4))) (by kernel_rfl) ?_ (fun hHeld => ?_)
   focus ((try dsimp only); (exact ⟨by rw [hXE.cell]; rfl, by rw [hXE.cell]; rfl, by rw [hYE.cell]; rfl, by rw [hYE.cell]; rfl⟩))
   obtain ⟨we, HWE⟩ : ∃ we, Hid (((w21.setCell ⟨sv, 0, none⟩ (.int .i64 z21)).setCell ⟨sv, 1, none⟩ (.slice b21 n21 c21)).drew = we) := ⟨_, Lib.hid rfl⟩
   rw [HWE.out] at hHeld hXE hYE hRE hTE hOE hNE hqE hgrE
   rw [HWE.out]
   refine tk 0 ?_
   refine tk 1 ?_
   have d0 : we.cell? ⟨w.heap.size, 0, none⟩ = some (.int .i64 0) := (by rw [hRE.cell]; rfl)
   have d1 : we.cell? ⟨w.heap.size, 1, none⟩ = some (.slice none 0 0) := (by rw [hRE.cell]; rfl)
   have df0 := hRE.free 0
   have df1 := hRE.free 1
   have hXF := (hXE.setOther (a := ⟨w.heap.size, 0, none⟩) (show sv ≠ w.heap.size from by omega) (.int .i64 z21)).setOther (a := ⟨w.heap.size, 1, none⟩) (show sv ≠ w.heap.size from by omega) (.slice b21 n21 c21)
   have hYF := (hYE.setOther (a := ⟨w.heap.size, 0, none⟩) (show sw ≠ w.heap.size from by omega) (.int .i64 z21)).setOther (a := ⟨w.heap.size, 1, none⟩) (show sw ≠ w.heap.size from by omega) (.slice b21 n21 c21)
   have hTF := (hTE.setOther (a := ⟨w.heap.size, 0, none⟩) (show w.heap.size + 1 ≠ w.heap.size from by omega) (.int .i64 z21)).setOther (a := ⟨w.heap.size, 1, none⟩) (show w.heap.size + 1 ≠ w.heap.size from by omega) (.slice b21 n21 c21)
   refine rd1 2 (fun K hK => ?_)
   go_simp
   refine hK.out _ _ ?_ (fun hHeld => ?_)
   focus ((try dsimp only); (exact ⟨by rw [hXF.cell]; rfl, by rw [hXF.cell]; rfl, by rw [hYF.cell]; rfl, by rw [hYF.cell]; rfl⟩))
   clear hK K
   try simp only [Act.put, pa, pb, pc]
   clear d0 d1 df0 df1
   have d0 : ((we.setCell ⟨w.heap.size, 0, none⟩ (.int .i64 z21)).setCell ⟨w.heap.size, 1, none⟩ (.slice b21 n21 c21)).cell? ⟨w.heap.size + 1, 0, none⟩ = some (.int .i64 0) := (by rw [hTF.cell]; rfl)
   have d1 : ((we.setCell ⟨w.heap.size, 0, none⟩ (.int .i64 z21)).setCell ⟨w.heap.size, 1, none⟩ (.slice b21 n21 c21)).cell? ⟨w.heap.size + 1, 1, none⟩ = some (.slice none 0 0) := (by rw [hTF.cell]; rfl)
   have df0 := hTF.free 0
   have df1 := hTF.free 1
   have hXG := (hXF.setOther (a := ⟨w.heap.size + 1, 0, none⟩) (show sv ≠ w.heap.size + 1 from by omega) (.int .i64 a)).setOther (a := ⟨w.heap.size + 1, 1, none⟩) (show sv ≠ w.heap.size + 1 from by omega) (.slice b4 n4 c4)
   have hYG := (hYF.setOther (a := ⟨w.heap.size + 1, 0, none⟩) (show sw ≠ w.heap.size + 1 from by omega) (.int .i64 a)).setOther (a := ⟨w.heap.size + 1, 1, none⟩) (show sw ≠ w.heap.size + 1 from by omega) (.slice b4 n4 c4)
   refine rd1 3 (fun K hK => ?_)
   go_simp
   refine hK.out _ _ ?_ (fun hHeld => ?_)
   focus ((try dsimp only); (exact ⟨by rw [hXG.cell]; rfl, by rw [hXG.cell]; rfl, by rw [hYG.cell]; rfl, by rw [hYG.cell]; rfl⟩))
   clear hK K
   try simp only [Act.put, pa, pb, pc]
   clear d0 d1 df0 df1
   refine wpAnyH_done (by kernel_rfl) ?_ _
   have hRz := (((hRE.set_ 0 (.int .i64 z21)).set_ 1 (.slice b21 n21 c21)).setOther (a := ⟨w.heap.size + 1, 0, none⟩) (show w.heap.size ≠ w.heap.size + 1 from by omega) (.int .i64 a)).setOther (a := ⟨w.heap.size + 1, 1, none⟩) (show w.heap.size ≠ w.heap.size + 1 from by omega) (.slice b4 n4 c4)
   have hTz := (hTF.set_ 0 (.int .i64 a)).set_ 1 (.slice b4 n4 c4)
   have r0 : ((((we.setCell ⟨w.heap.size, 0, none⟩ (.int .i64 z21)).setCell ⟨w.heap.size, 1, none⟩ (.slice b21 n21 c21)).setCell ⟨w.heap.size + 1, 0, none⟩ (.int .i64 a)).setCell ⟨w.heap.size + 1, 1, none⟩ (.slice b4 n4 c4)).cell? ⟨w.heap.size, 0, none⟩ = some (.int .i64 z21) := (by rw [hRz.cell]; rfl)
   have r1 : ((((we.setCell ⟨w.heap.size, 0, none⟩ (.int .i64 z21)).setCell ⟨w.heap.size, 1, none⟩ (.slice b21 n21 c21)).setCell ⟨w.heap.size + 1, 0, none⟩ (.int .i64 a)).setCell ⟨w.heap.size + 1, 1, none⟩ (.slice b4 n4 c4)).cell? ⟨w.heap.size, 1, none⟩ = some (.slice b21 n21 c21) := (by rw [hRz.cell]; rfl)
   have t0 : ((((we.setCell ⟨w.heap.size, 0, none⟩ (.int .i64 z21)).setCell ⟨w.heap.size, 1, none⟩ (.slice b21 n21 c21)).setCell ⟨w.heap.size + 1, 0, none⟩ (.int .i64 a)).setCell ⟨w.heap.size + 1, 1, none⟩ (.slice b4 n4 c4)).cell? ⟨w.heap.size + 1, 0, none⟩ = some (.int .i64 a) := (by rw [hTz.cell]; rfl)
   have t1 : ((((we.setCell ⟨w.heap.size, 0, none⟩ (.int .i64 z21)).setCell ⟨w.heap.size, 1, none⟩ (.slice b21 n21 c21)).setCell ⟨w.heap.size + 1, 0, none⟩ (.int .i64 a)).setCell ⟨w.heap.size + 1, 1, none⟩ (.slice b4 n4 c4)).cell? ⟨w.heap.size + 1, 1, none⟩ = some (.slice b4 n4 c4) := (by rw [hTz.cell]; rfl)
   go_wp2
   refine bodyPost_ret (v := .tuple #[.agg #[.int .i64 z21, .slice b21 n21 c21], .agg #[.int .i64 a, .slice b4 n4 c4]]) (by simp [results, Tryz.results86, go_sem, r0, r1, t0, t1]) rfl ⟨z21, .slice b21 n21 c21, l21, a, .slice b4 n4 c4, lx, rfl, ?_, hf21, ⟨by omega, by omega⟩, by omega, ?_, hfx, hfa, by omega, ?_⟩
   ·
    have hne : ∀ k, (.slice b21 n21 c21 : Value).ownBlock = some k → k ≠ w.heap.size := fun k hk => by have := (hOE.block_lt hk).1; omega
    have hne1 : ∀ k, (.slice b21 n21 c21 : Value).ownBlock = some k → k ≠ w.heap.size + 1 := fun k hk => by have := (hOE.block_lt hk).1; omega
    exact ((((hOE.setCell (a := ⟨w.heap.size, 0, none⟩) hne _).setCell (a := ⟨w.heap.size, 1, none⟩) hne _).setCell (a := ⟨w.heap.size + 1, 0, none⟩) hne1 _).setCell (a := ⟨w.heap.size + 1, 1, none⟩) hne1 _).low (by omega)
   ·
    have hne : ∀ k, (.slice b4 n4 c4 : Value).ownBlock = some k → k ≠ w.heap.size := fun k hk => by have := (hNE.block_lt hk).1; omega
    have hne1 : ∀ k, (.slice b4 n4 c4 : Value).ownBlock = some k → k ≠ w.heap.size + 1 := fun k hk => by have := (hNE.block_lt hk).1; omega
    exact ((((hNE.setCell (a := ⟨w.heap.size, 0, none⟩) hne _).setCell (a := ⟨w.heap.size, 1, none⟩) hne _).setCell (a := ⟨w.heap.size + 1, 0, none⟩) hne1 _).setCell (a := ⟨w.heap.size + 1, 1, none⟩) hne1 _).low (by omega)
   ·
    have hbE : Below w.heap.size we ((((we.setCell ⟨w.heap.size, 0, none⟩ (.int .i64 z21)).setCell ⟨w.heap.size, 1, none⟩ (.slice b21 n21 c21)).setCell ⟨w.heap.size + 1, 0, none⟩ (.int .i64 a)).setCell ⟨w.heap.size + 1, 1, none⟩ (.slice b4 n4 c4)) := ((((Below.refl w.heap.size we).setCell (Nat.le_refl _) _).setCell (Nat.le_refl _) _).setCell (Nat.le_succ _) _).setCell (Nat.le_succ _) _
    exact ⟨belowKeeps hgrE hbE (Nat.le_refl _), _, by omega, by omega, hqE.belowR hbE hgl⟩
  ·
   have e9 : ((k20 : Int) == 0) = false := by simp; omega
   go_wp2
   have hXE := hX20.next (Below.refl _ w20).drew
   have hYE := hY20.next (Below.refl _ w20).drew
   have hRE := hR20.next (Below.refl _ w20).drew
   have hTE := hT20.next (Below.refl _ w20).drew
   have hOE := hO20.next (Below.refl _ w20).drew
   have hNE := hN20.next (Below.refl _ w20).drew
   have hqE := hq20.next (Below.refl _ w20).drew
   have hgrE := grown_call hgr20 (Below.refl _ w20).drew
   refine wp_region_held_drew (S := (fun W => W.cell? ⟨sv, 0, none⟩ = some (.int .i64 z) ∧ W.cell? ⟨sv, 1, none⟩ = some (.slice b1 l.length c1) ∧ W.cell? ⟨sw, 0, none⟩ = some (.int .i64 a) ∧ W.cell? ⟨sw, 1, none⟩ = some (.slice b4 n4 c4))) (by kernel_rfl) ?_ (fun hHeld => ?_)
   focus ((try dsimp only); (exact ⟨by rw [hXE.cell]; rfl, by rw [hXE.cell]; rfl, by rw [hYE.cell]; rfl, by rw [hYE.cell]; rfl⟩))
   obtain ⟨we, HWE⟩ : ∃ we, Hid (w20.drew = we) := ⟨_, Lib.hid rfl⟩
   rw [HWE.out] at hHeld hXE hYE hRE hTE hOE hNE hqE hgrE
   rw [HWE.out]
   refine tk 0 ?_
   refine tk 1 ?_
   have d0 : we.cell? ⟨w.heap.size, 0, none⟩ = some (.int .i64 0) := (by rw [hRE.cell]; rfl)
   have d1 : we.cell? ⟨w.heap.size, 1, none⟩ = some (.slice none 0 0) := (by rw [hRE.cell]; rfl)
   have df0 := hRE.free 0
   have df1 := hRE.free 1
   have hXF := (hXE.setOther (a := ⟨w.heap.size, 0, none⟩) (show sv ≠ w.heap.size from by omega) (.int .i64 z)).setOther (a := ⟨w.heap.size, 1, none⟩) (show sv ≠ w.heap.size from by omega) (.slice b1 l.length c1)
   have hYF := (hYE.setOther (a := ⟨w.heap.size, 0, none⟩) (show sw ≠ w.heap.size from by omega) (.int .i64 z)).setOther (a := ⟨w.heap.size, 1, none⟩) (show sw ≠ w.heap.size from by omega) (.slice b1 l.length c1)
   have hTF := (hTE.setOther (a := ⟨w.heap.size, 0, none⟩) (show w.heap.size + 1 ≠ w.heap.size from by omega) (.int .i64 z)).setOther (a := ⟨w.heap.size, 1, none⟩) (show w.heap.size + 1 ≠ w.heap.size from by omega) (.slice b1 l.length c1)
   refine rd1 2 (fun K hK => ?_)
   go_simp
   refine hK.out _ _ ?_ (fun hHeld => ?_)
   focus ((try dsimp only); (exact ⟨by rw [hXF.cell]; rfl, by rw [hXF.cell]; rfl, by rw [hYF.cell]; rfl, by rw [hYF.cell]; rfl⟩))
   clear hK K
   try simp only [Act.put, pa, pb, pc]
   clear d0 d1 df0 df1
   have d0 : ((we.setCell ⟨w.heap.size, 0, none⟩ (.int .i64 z)).setCell ⟨w.heap.size, 1, none⟩ (.slice b1 l.length c1)).cell? ⟨w.heap.size + 1, 0, none⟩ = some (.int .i64 0) := (by rw [hTF.cell]; rfl)
   have d1 : ((we.setCell ⟨w.heap.size, 0, none⟩ (.int .i64 z)).setCell ⟨w.heap.size, 1, none⟩ (.slice b1 l.length c1)).cell? ⟨w.heap.size + 1, 1, none⟩ = some (.slice none 0 0) := (by rw [hTF.cell]; rfl)
   have df0 := hTF.free 0
   have df1 := hTF.free 1
   have hXG := (hXF.setOther (a := ⟨w.heap.size + 1, 0, none⟩) (show sv ≠ w.heap.size + 1 from by omega) (.int .i64 a)).setOther (a := ⟨w.heap.size + 1, 1, none⟩) (show sv ≠ w.heap.size + 1 from by omega) (.slice b4 n4 c4)
   have hYG := (hYF.setOther (a := ⟨w.heap.size + 1, 0, none⟩) (show sw ≠ w.heap.size + 1 from by omega) (.int .i64 a)).setOther (a := ⟨w.heap.size + 1, 1, none⟩) (show sw ≠ w.heap.size + 1 from by omega) (.slice b4 n4 c4)
   refine rd1 3 (fun K hK => ?_)
   go_simp
   refine hK.out _ _ ?_ (fun hHeld => ?_)
   focus ((try dsimp only); (exact ⟨by rw [hXG.cell]; rfl, by rw [hXG.cell]; rfl, by rw [hYG.cell]; rfl, by rw [hYG.cell]; rfl⟩))
   clear hK K
   try simp only [Act.put, pa, pb, pc]
   clear d0 d1 df0 df1
   refine wpAnyH_done (by kernel_rfl) ?_ _
   have hRz := (((hRE.set_ 0 (.int .i64 z)).set_ 1 (.slice b1 l.length c1)).setOther (a := ⟨w.heap.size + 1, 0, none⟩) (show w.heap.size ≠ w.heap.size + 1 from by omega) (.int .i64 a)).setOther (a := ⟨w.heap.size + 1, 1, none⟩) (show w.heap.size ≠ w.heap.size + 1 from by omega) (.slice b4 n4 c4)
   have hTz := (hTF.set_ 0 (.int .i64 a)).set_ 1 (.slice b4 n4 c4)
   have r0 : ((((we.setCell ⟨w.heap.size, 0, none⟩ (.int .i64 z)).setCell ⟨w.heap.size, 1, none⟩ (.slice b1 l.length c1)).setCell ⟨w.heap.size + 1, 0, none⟩ (.int .i64 a)).setCell ⟨w.heap.size + 1, 1, none⟩ (.slice b4 n4 c4)).cell? ⟨w.heap.size, 0, none⟩ = some (.int .i64 z) := (by rw [hRz.cell]; rfl)
   have r1 : ((((we.setCell ⟨w.heap.size, 0, none⟩ (.int .i64 z)).setCell ⟨w.heap.size, 1, none⟩ (.slice b1 l.length c1)).setCell ⟨w.heap.size + 1, 0, none⟩ (.int .i64 a)).setCell ⟨w.heap.size + 1, 1, none⟩ (.slice b4 n4 c4)).cell? ⟨w.heap.size, 1, none⟩ = some (.slice b1 l.length c1) := (by rw [hRz.cell]; rfl)
   have t0 : ((((we.setCell ⟨w.heap.size, 0, none⟩ (.int .i64 z)).setCell ⟨w.heap.size, 1, none⟩ (.slice b1 l.length c1)).setCell ⟨w.heap.size + 1, 0, none⟩ (.int .i64 a)).setCell ⟨w.heap.size + 1, 1, none⟩ (.slice b4 n4 c4)).cell? ⟨w.heap.size + 1, 0, none⟩ = some (.int .i64 a) := (by rw [hTz.cell]; rfl)
   have t1 : ((((we.setCell ⟨w.heap.size, 0, none⟩ (.int .i64 z)).setCell ⟨w.heap.size, 1, none⟩ (.slice b1 l.length c1)).setCell ⟨w.heap.size + 1, 0, none⟩ (.int .i64 a)).setCell ⟨w.heap.size + 1, 1, none⟩ (.slice b4 n4 c4)).cell? ⟨w.heap.size + 1, 1, none⟩ = some (.slice b4 n4 c4) := (by rw [hTz.cell]; rfl)
   go_wp2
   refine bodyPost_ret (v := .tuple #[.agg #[.int .i64 z, .slice b1 l.length c1], .agg #[.int .i64 a, .slice b4 n4 c4]]) (by simp [results, Tryz.results86, go_sem, r0, r1, t0, t1]) rfl ⟨z, .slice b1 l.length c1, l, a, .slice b4 n4 c4, lx, rfl, ?_, hf, ⟨by omega, by omega⟩, by omega, ?_, hfx, hfa, by omega, ?_⟩
   ·
    have hne : ∀ k, (.slice b1 l.length c1 : Value).ownBlock = some k → k ≠ w.heap.size := fun k hk => by have := (hOE.block_lt hk).1; omega
    have hne1 : ∀ k, (.slice b1 l.length c1 : Value).ownBlock = some k → k ≠ w.heap.size + 1 := fun k hk => by have := (hOE.block_lt hk).1; omega
    exact ((((hOE.setCell (a := ⟨w.heap.size, 0, none⟩) hne _).setCell (a := ⟨w.heap.size, 1, none⟩) hne _).setCell (a := ⟨w.heap.size + 1, 0, none⟩) hne1 _).setCell (a := ⟨w.heap.size + 1, 1, none⟩) hne1 _).low (by omega)
   ·
    have hne : ∀ k, (.slice b4 n4 c4 : Value).ownBlock = some k → k ≠ w.heap.size := fun k hk => by have := (hNE.block_lt hk).1; omega
    have hne1 : ∀ k, (.slice b4 n4 c4 : Value).ownBlock = some k → k ≠ w.heap.size + 1 := fun k hk => by have := (hNE.block_lt hk).1; omega
    exact ((((hNE.setCell (a := ⟨w.heap.size, 0, none⟩) hne _).setCell (a := ⟨w.heap.size, 1, none⟩) hne _).setCell (a := ⟨w.heap.size + 1, 0, none⟩) hne1 _).setCell (a := ⟨w.heap.size + 1, 1, none⟩) hne1 _).low (by omega)
   ·
    have hbE : Below w.heap.size we ((((we.setCell ⟨w.heap.size, 0, none⟩ (.int .i64 z)).setCell ⟨w.heap.size, 1, none⟩ (.slice b1 l.length c1)).setCell ⟨w.heap.size + 1, 0, none⟩ (.int .i64 a)).setCell ⟨w.heap.size + 1, 1, none⟩ (.slice b4 n4 c4)) := ((((Below.refl w.heap.size we).setCell (Nat.le_refl _) _).setCell (Nat.le_refl _) _).setCell (Nat.le_succ _) _).setCell (Nat.le_succ _) _
    exact ⟨belowKeeps hgrE hbE (Nat.le_refl _), _, by omega, by omega, hqE.belowR hbE hgl⟩

set_option maxHeartbeats 2000000 in
theorem drawWorkOk (A : Option Addr) (n c : Nat) (w : World) (hc : n ≤ c) (hcm : c ≤ maxLen) (hr : RdB w w.heap.size A n) : Calls Tryz.prog 55 #[.slice A n c] w (DrawnVW w) := by
 have hR0 : Blk ((w.alloc (.cells #[.int .i64 0, .slice none 0 0] 34)).alloc (.cells #[.int .i64 0, .slice none 0 0] 38)) w.heap.size 34 #[.int .i64 0, .slice none 0 0] := (blkA w #[.int .i64 0, .slice none 0 0] 34).alloc (.cells #[.int .i64 0, .slice none 0 0] 38)
 have hT0 : Blk ((w.alloc (.cells #[.int .i64 0, .slice none 0 0] 34)).alloc (.cells #[.int .i64 0, .slice none 0 0] 38)) (w.heap.size + 1) 38 #[.int .i64 0, .slice none 0 0] := blkAt #[.int .i64 0, .slice none 0 0] 38 (World.size_alloc _ _)
 have hw0 : Below w.heap.size w ((w.alloc (.cells #[.int .i64 0, .slice none 0 0] 34)).alloc (.cells #[.int .i64 0, .slice none 0 0] 38)) := below_alloc (below_alloc (Below.refl _ _) _) _
 go_enter Tryz.func55, Tryz.ntmps55
 go_wp2_with fail
 refine (open_d A n c _ hc hcm (hr.next hw0)).mono ?_
 rintro e w1 ⟨m, rfl, hq1, hb1⟩
 have hg : ((w.alloc (.cells #[.int .i64 0, .slice none 0 0] 34)).alloc (.cells #[.int .i64 0, .slice none 0 0] 38)).heap.size = w.heap.size + 1 + 1 := by rw [World.size_alloc, World.size_alloc]
 rw [hg] at hq1
 have hw1 := below_next hw0 hb1
 have hR1 := hR0.next hb1
 have hT1 := hT0.next hb1
 obtain ⟨g, HG, hg1⟩ : ∃ g, Hid (w.heap.size + 1 + 1 = g) ∧ w.heap.size + 1 < g := ⟨_, Lib.hid rfl, by omega⟩
 rw [HG.out] at hq1
 have hgw := hq1.lt
 go_wp2_with fail
 try simp only [World.size_alloc]
 try rw [HG.out]
 refine (bothW_d g A m c 0 w1 hq1 (by omega)).mono ?_
 rintro e w2 ⟨z, v2, l, a, v3, lx, rfl, hO2, hf, hz, hl, hN2, hfx, hfa, hlx, hd2⟩
 have hR2 := hR1.drawn (by omega) hd2.grown
 have hT2 := hT1.drawn (by omega) hd2.grown
 have hw2 : Below w.heap.size w w2 := hw1.grown hd2.grown hw1.size (fun k hk => by have := Option.some.inj hk; omega)
 have hs1 := hw1.size
 have HOB : Hid (∀ k, v2.ownBlock = some k → w.heap.size + 1 < k) := fun k hk => by have := (hO2.block_lt hk).1; omega
 have HNB : Hid (∀ k, v3.ownBlock = some k → w.heap.size + 1 < k) := fun k hk => by have := (hN2.block_lt hk).1; omega
 have hO2 := hO2.low hs1
 have hN2 := hN2.low hs1
 obtain ⟨b2, n2, c2, rfl⟩ := hO2.slice
 obtain ⟨b3, n3, c3, rfl⟩ := hN2.slice
 have d0 : w2.cell? ⟨w.heap.size, 0, none⟩ = some (.int .i64 0) := (by rw [hR2.cell]; rfl)
 have d1 : w2.cell? ⟨w.heap.size, 1, none⟩ = some (.slice none 0 0) := (by rw [hR2.cell]; rfl)
 have df0 := hR2.free 0
 have df1 := hR2.free 1
 have hTs := (hT2.setOther (a := ⟨w.heap.size, 0, none⟩) (show w.heap.size + 1 ≠ w.heap.size from by omega) (.int .i64 z)).setOther (a := ⟨w.heap.size, 1, none⟩) (show w.heap.size + 1 ≠ w.heap.size from by omega) (.slice b2 n2 c2)
 have k0 : w2.cell? ⟨w.heap.size + 1, 0, none⟩ = some (.int .i64 0) := (by rw [hT2.cell]; rfl)
 have k1 : w2.cell? ⟨w.heap.size + 1, 1, none⟩ = some (.slice none 0 0) := (by rw [hT2.cell]; rfl)
 have kf0 := hT2.free 0
 have kf1 := hT2.free 1
 have m0 : ((w2.setCell ⟨w.heap.size, 0, none⟩ (.int .i64 z)).setCell ⟨w.heap.size, 1, none⟩ (.slice b2 n2 c2)).cell? ⟨w.heap.size + 1, 0, none⟩ = some (.int .i64 0) := (by rw [hTs.cell]; rfl)
 have m1 : ((w2.setCell ⟨w.heap.size, 0, none⟩ (.int .i64 z)).setCell ⟨w.heap.size, 1, none⟩ (.slice b2 n2 c2)).cell? ⟨w.heap.size + 1, 1, none⟩ = some (.slice none 0 0) := (by rw [hTs.cell]; rfl)
 have mf0 := hTs.free 0
 have mf1 := hTs.free 1
 have hRz := (((hR2.set_ 0 (.int .i64 z)).set_ 1 (.slice b2 n2 c2)).setOther (a := ⟨w.heap.size + 1, 0, none⟩) (show w.heap.size ≠ w.heap.size + 1 from by omega) (.int .i64 a)).setOther (a := ⟨w.heap.size + 1, 1, none⟩) (show w.heap.size ≠ w.heap.size + 1 from by omega) (.slice b3 n3 c3)
 have hTz := (hTs.set_ 0 (.int .i64 a)).set_ 1 (.slice b3 n3 c3)
 have r0 : ((((w2.setCell ⟨w.heap.size, 0, none⟩ (.int .i64 z)).setCell ⟨w.heap.size, 1, none⟩ (.slice b2 n2 c2)).setCell ⟨w.heap.size + 1, 0, none⟩ (.int .i64 a)).setCell ⟨w.heap.size + 1, 1, none⟩ (.slice b3 n3 c3)).cell? ⟨w.heap.size, 0, none⟩ = some (.int .i64 z) := (by rw [hRz.cell]; rfl)
 have r1 : ((((w2.setCell ⟨w.heap.size, 0, none⟩ (.int .i64 z)).setCell ⟨w.heap.size, 1, none⟩ (.slice b2 n2 c2)).setCell ⟨w.heap.size + 1, 0, none⟩ (.int .i64 a)).setCell ⟨w.heap.size + 1, 1, none⟩ (.slice b3 n3 c3)).cell? ⟨w.heap.size, 1, none⟩ = some (.slice b2 n2 c2) := (by rw [hRz.cell]; rfl)
 have t0 : ((((w2.setCell ⟨w.heap.size, 0, none⟩ (.int .i64 z)).setCell ⟨w.heap.size, 1, none⟩ (.slice b2 n2 c2)).setCell ⟨w.heap.size + 1, 0, none⟩ (.int .i64 a)).setCell ⟨w.heap.size + 1, 1, none⟩ (.slice b3 n3 c3)).cell? ⟨w.heap.size + 1, 0, none⟩ = some (.int .i64 a) := (by rw [hTz.cell]; rfl)
 have t1 : ((((w2.setCell ⟨w.heap.size, 0, none⟩ (.int .i64 z)).setCell ⟨w.heap.size, 1, none⟩ (.slice b2 n2 c2)).setCell ⟨w.heap.size + 1, 0, none⟩ (.int .i64 a)).setCell ⟨w.heap.size + 1, 1, none⟩ (.slice b3 n3 c3)).cell? ⟨w.heap.size + 1, 1, none⟩ = some (.slice b3 n3 c3) := (by rw [hTz.cell]; rfl)
 have R0 := Lib.hid r0
 have R1 := Lib.hid r1
 have T0 := Lib.hid t0
 have T1 := Lib.hid t1
 clear r0 r1 t0 t1
 go_wp2
 refine bodyPost_ret (v := .tuple #[.agg #[.int .i64 z, .slice b2 n2 c2], .agg #[.int .i64 a, .slice b3 n3 c3]]) (by simp [results, Tryz.results55, go_sem, R0.out, R1.out, T0.out, T1.out]) rfl ⟨z, .slice b2 n2 c2, l, a, .slice b3 n3 c3, lx, rfl, ?_, hf, hz, hl, ?_, hfx, hfa, hlx, ?_⟩
 ·
  have hne : ∀ k, (.slice b2 n2 c2 : Value).ownBlock = some k → k ≠ w.heap.size := fun k hk => by have := HOB.out k hk; omega
  have hne1 : ∀ k, (.slice b2 n2 c2 : Value).ownBlock = some k → k ≠ w.heap.size + 1 := fun k hk => by have := HOB.out k hk; omega
  exact (((hO2.setCell (a := ⟨w.heap.size, 0, none⟩) hne _).setCell (a := ⟨w.heap.size, 1, none⟩) hne _).setCell (a := ⟨w.heap.size + 1, 0, none⟩) hne1 _).setCell (a := ⟨w.heap.size + 1, 1, none⟩) hne1 _
 ·
  have hne : ∀ k, (.slice b3 n3 c3 : Value).ownBlock = some k → k ≠ w.heap.size := fun k hk => by have := HNB.out k hk; omega
  have hne1 : ∀ k, (.slice b3 n3 c3 : Value).ownBlock = some k → k ≠ w.heap.size + 1 := fun k hk => by have := HNB.out k hk; omega
  exact (((hN2.setCell (a := ⟨w.heap.size, 0, none⟩) hne _).setCell (a := ⟨w.heap.size, 1, none⟩) hne _).setCell (a := ⟨w.heap.size + 1, 0, none⟩) hne1 _).setCell (a := ⟨w.heap.size + 1, 1, none⟩) hne1 _
 ·
  exact (((hw2.setCell (Nat.le_refl _) _).setCell (Nat.le_refl _) _).setCell (Nat.le_succ _) _).setCell (Nat.le_succ _) _

set_option maxHeartbeats 2000000 in
theorem drawWorkRows (A : Option Addr) (n c : Nat) (w : World) (hc : n ≤ c) (hcm : c ≤ maxLen) (hr : RdB w w.heap.size A n) : Calls Tryz.prog 44 #[.slice A n c] w (DrawnVW w) := by
 have hR0 : Blk ((w.alloc (.cells #[.int .i64 0, .slice none 0 0] 34)).alloc (.cells #[.int .i64 0, .slice none 0 0] 38)) w.heap.size 34 #[.int .i64 0, .slice none 0 0] := (blkA w #[.int .i64 0, .slice none 0 0] 34).alloc (.cells #[.int .i64 0, .slice none 0 0] 38)
 have hT0 : Blk ((w.alloc (.cells #[.int .i64 0, .slice none 0 0] 34)).alloc (.cells #[.int .i64 0, .slice none 0 0] 38)) (w.heap.size + 1) 38 #[.int .i64 0, .slice none 0 0] := blkAt #[.int .i64 0, .slice none 0 0] 38 (World.size_alloc _ _)
 have hw0 : Below w.heap.size w ((w.alloc (.cells #[.int .i64 0, .slice none 0 0] 34)).alloc (.cells #[.int .i64 0, .slice none 0 0] 38)) := below_alloc (below_alloc (Below.refl _ _) _) _
 go_enter Tryz.func44, Tryz.ntmps44
 go_wp2_with fail
 refine (open_d A n c _ hc hcm (hr.next hw0)).mono ?_
 rintro e w1 ⟨m, rfl, hq1, hb1⟩
 have hg : ((w.alloc (.cells #[.int .i64 0, .slice none 0 0] 34)).alloc (.cells #[.int .i64 0, .slice none 0 0] 38)).heap.size = w.heap.size + 1 + 1 := by rw [World.size_alloc, World.size_alloc]
 rw [hg] at hq1
 have hw1 := below_next hw0 hb1
 have hR1 := hR0.next hb1
 have hT1 := hT0.next hb1
 obtain ⟨g, HG, hg1⟩ : ∃ g, Hid (w.heap.size + 1 + 1 = g) ∧ w.heap.size + 1 < g := ⟨_, Lib.hid rfl, by omega⟩
 rw [HG.out] at hq1
 have hgw := hq1.lt
 go_wp2_with fail
 try simp only [World.size_alloc]
 try rw [HG.out]
 refine (bothW_d g A m c 0 w1 hq1 (by omega)).mono ?_
 rintro e w2 ⟨z, v2, l, a, v3, lx, rfl, hO2, hf, hz, hl, hN2, hfx, hfa, hlx, hd2⟩
 have hR2 := hR1.drawn (by omega) hd2.grown
 have hT2 := hT1.drawn (by omega) hd2.grown
 have hw2 : Below w.heap.size w w2 := hw1.grown hd2.grown hw1.size (fun k hk => by have := Option.some.inj hk; omega)
 have hs1 := hw1.size
 have HOB : Hid (∀ k, v2.ownBlock = some k → w.heap.size + 1 < k) := fun k hk => by have := (hO2.block_lt hk).1; omega
 have HNB : Hid (∀ k, v3.ownBlock = some k → w.heap.size + 1 < k) := fun k hk => by have := (hN2.block_lt hk).1; omega
 have hO2 := hO2.low hs1
 have hN2 := hN2.low hs1
 obtain ⟨b2, n2, c2, rfl⟩ := hO2.slice
 obtain ⟨b3, n3, c3, rfl⟩ := hN2.slice
 have d0 : w2.cell? ⟨w.heap.size, 0, none⟩ = some (.int .i64 0) := (by rw [hR2.cell]; rfl)
 have d1 : w2.cell? ⟨w.heap.size, 1, none⟩ = some (.slice none 0 0) := (by rw [hR2.cell]; rfl)
 have df0 := hR2.free 0
 have df1 := hR2.free 1
 have hTs := (hT2.setOther (a := ⟨w.heap.size, 0, none⟩) (show w.heap.size + 1 ≠ w.heap.size from by omega) (.int .i64 z)).setOther (a := ⟨w.heap.size, 1, none⟩) (show w.heap.size + 1 ≠ w.heap.size from by omega) (.slice b2 n2 c2)
 have k0 : w2.cell? ⟨w.heap.size + 1, 0, none⟩ = some (.int .i64 0) := (by rw [hT2.cell]; rfl)
 have k1 : w2.cell? ⟨w.heap.size + 1, 1, none⟩ = some (.slice none 0 0) := (by rw [hT2.cell]; rfl)
 have kf0 := hT2.free 0
 have kf1 := hT2.free 1
 have m0 : ((w2.setCell ⟨w.heap.size, 0, none⟩ (.int .i64 z)).setCell ⟨w.heap.size, 1, none⟩ (.slice b2 n2 c2)).cell? ⟨w.heap.size + 1, 0, none⟩ = some (.int .i64 0) := (by rw [hTs.cell]; rfl)
 have m1 : ((w2.setCell ⟨w.heap.size, 0, none⟩ (.int .i64 z)).setCell ⟨w.heap.size, 1, none⟩ (.slice b2 n2 c2)).cell? ⟨w.heap.size + 1, 1, none⟩ = some (.slice none 0 0) := (by rw [hTs.cell]; rfl)
 have mf0 := hTs.free 0
 have mf1 := hTs.free 1
 have hRz := (((hR2.set_ 0 (.int .i64 z)).set_ 1 (.slice b2 n2 c2)).setOther (a := ⟨w.heap.size + 1, 0, none⟩) (show w.heap.size ≠ w.heap.size + 1 from by omega) (.int .i64 a)).setOther (a := ⟨w.heap.size + 1, 1, none⟩) (show w.heap.size ≠ w.heap.size + 1 from by omega) (.slice b3 n3 c3)
 have hTz := (hTs.set_ 0 (.int .i64 a)).set_ 1 (.slice b3 n3 c3)
 have r0 : ((((w2.setCell ⟨w.heap.size, 0, none⟩ (.int .i64 z)).setCell ⟨w.heap.size, 1, none⟩ (.slice b2 n2 c2)).setCell ⟨w.heap.size + 1, 0, none⟩ (.int .i64 a)).setCell ⟨w.heap.size + 1, 1, none⟩ (.slice b3 n3 c3)).cell? ⟨w.heap.size, 0, none⟩ = some (.int .i64 z) := (by rw [hRz.cell]; rfl)
 have r1 : ((((w2.setCell ⟨w.heap.size, 0, none⟩ (.int .i64 z)).setCell ⟨w.heap.size, 1, none⟩ (.slice b2 n2 c2)).setCell ⟨w.heap.size + 1, 0, none⟩ (.int .i64 a)).setCell ⟨w.heap.size + 1, 1, none⟩ (.slice b3 n3 c3)).cell? ⟨w.heap.size, 1, none⟩ = some (.slice b2 n2 c2) := (by rw [hRz.cell]; rfl)
 have t0 : ((((w2.setCell ⟨w.heap.size, 0, none⟩ (.int .i64 z)).setCell ⟨w.heap.size, 1, none⟩ (.slice b2 n2 c2)).setCell ⟨w.heap.size + 1, 0, none⟩ (.int .i64 a)).setCell ⟨w.heap.size + 1, 1, none⟩ (.slice b3 n3 c3)).cell? ⟨w.heap.size + 1, 0, none⟩ = some (.int .i64 a) := (by rw [hTz.cell]; rfl)
 have t1 : ((((w2.setCell ⟨w.heap.size, 0, none⟩ (.int .i64 z)).setCell ⟨w.heap.size, 1, none⟩ (.slice b2 n2 c2)).setCell ⟨w.heap.size + 1, 0, none⟩ (.int .i64 a)).setCell ⟨w.heap.size + 1, 1, none⟩ (.slice b3 n3 c3)).cell? ⟨w.heap.size + 1, 1, none⟩ = some (.slice b3 n3 c3) := (by rw [hTz.cell]; rfl)
 have R0 := Lib.hid r0
 have R1 := Lib.hid r1
 have T0 := Lib.hid t0
 have T1 := Lib.hid t1
 clear r0 r1 t0 t1
 go_wp2
 refine bodyPost_ret (v := .tuple #[.agg #[.int .i64 z, .slice b2 n2 c2], .agg #[.int .i64 a, .slice b3 n3 c3]]) (by simp [results, Tryz.results44, go_sem, R0.out, R1.out, T0.out, T1.out]) rfl ⟨z, .slice b2 n2 c2, l, a, .slice b3 n3 c3, lx, rfl, ?_, hf, hz, hl, ?_, hfx, hfa, hlx, ?_⟩
 ·
  have hne : ∀ k, (.slice b2 n2 c2 : Value).ownBlock = some k → k ≠ w.heap.size := fun k hk => by have := HOB.out k hk; omega
  have hne1 : ∀ k, (.slice b2 n2 c2 : Value).ownBlock = some k → k ≠ w.heap.size + 1 := fun k hk => by have := HOB.out k hk; omega
  exact (((hO2.setCell (a := ⟨w.heap.size, 0, none⟩) hne _).setCell (a := ⟨w.heap.size, 1, none⟩) hne _).setCell (a := ⟨w.heap.size + 1, 0, none⟩) hne1 _).setCell (a := ⟨w.heap.size + 1, 1, none⟩) hne1 _
 ·
  have hne : ∀ k, (.slice b3 n3 c3 : Value).ownBlock = some k → k ≠ w.heap.size := fun k hk => by have := HNB.out k hk; omega
  have hne1 : ∀ k, (.slice b3 n3 c3 : Value).ownBlock = some k → k ≠ w.heap.size + 1 := fun k hk => by have := HNB.out k hk; omega
  exact (((hN2.setCell (a := ⟨w.heap.size, 0, none⟩) hne _).setCell (a := ⟨w.heap.size, 1, none⟩) hne _).setCell (a := ⟨w.heap.size + 1, 0, none⟩) hne1 _).setCell (a := ⟨w.heap.size + 1, 1, none⟩) hne1 _
 ·
  exact (((hw2.setCell (Nat.le_refl _) _).setCell (Nat.le_refl _) _).setCell (Nat.le_succ _) _).setCell (Nat.le_succ _) _

set_option maxHeartbeats 2000000 in
theorem drawWorkEnd (A : Option Addr) (n c : Nat) (w : World) (hc : n ≤ c) (hcm : c ≤ maxLen) (hr : RdB w w.heap.size A n) : Calls Tryz.prog 47 #[.slice A n c] w (DrawnVW w) := by
 have hR0 : Blk ((w.alloc (.cells #[.int .i64 0, .slice none 0 0] 34)).alloc (.cells #[.int .i64 0, .slice none 0 0] 38)) w.heap.size 34 #[.int .i64 0, .slice none 0 0] := (blkA w #[.int .i64 0, .slice none 0 0] 34).alloc (.cells #[.int .i64 0, .slice none 0 0] 38)
 have hT0 : Blk ((w.alloc (.cells #[.int .i64 0, .slice none 0 0] 34)).alloc (.cells #[.int .i64 0, .slice none 0 0] 38)) (w.heap.size + 1) 38 #[.int .i64 0, .slice none 0 0] := blkAt #[.int .i64 0, .slice none 0 0] 38 (World.size_alloc _ _)
 have hw0 : Below w.heap.size w ((w.alloc (.cells #[.int .i64 0, .slice none 0 0] 34)).alloc (.cells #[.int .i64 0, .slice none 0 0] 38)) := below_alloc (below_alloc (Below.refl _ _) _) _
 go_enter Tryz.func47, Tryz.ntmps47
 go_wp2_with fail
 refine (open_d A n c _ hc hcm (hr.next hw0)).mono ?_
 rintro e w1 ⟨m, rfl, hq1, hb1⟩
 have hg : ((w.alloc (.cells #[.int .i64 0, .slice none 0 0] 34)).alloc (.cells #[.int .i64 0, .slice none 0 0] 38)).heap.size = w.heap.size + 1 + 1 := by rw [World.size_alloc, World.size_alloc]
 rw [hg] at hq1
 have hw1 := below_next hw0 hb1
 have hR1 := hR0.next hb1
 have hT1 := hT0.next hb1
 obtain ⟨g, HG, hg1⟩ : ∃ g, Hid (w.heap.size + 1 + 1 = g) ∧ w.heap.size + 1 < g := ⟨_, Lib.hid rfl, by omega⟩
 rw [HG.out] at hq1
 have hgw := hq1.lt
 go_wp2_with fail
 try simp only [World.size_alloc]
 try rw [HG.out]
 refine (bothW_d g A m c 0 w1 hq1 (by omega)).mono ?_
 rintro e w2 ⟨z, v2, l, a, v3, lx, rfl, hO2, hf, hz, hl, hN2, hfx, hfa, hlx, hd2⟩
 have hR2 := hR1.drawn (by omega) hd2.grown
 have hT2 := hT1.drawn (by omega) hd2.grown
 have hw2 : Below w.heap.size w w2 := hw1.grown hd2.grown hw1.size (fun k hk => by have := Option.some.inj hk; omega)
 have hs1 := hw1.size
 have HOB : Hid (∀ k, v2.ownBlock = some k → w.heap.size + 1 < k) := fun k hk => by have := (hO2.block_lt hk).1; omega
 have HNB : Hid (∀ k, v3.ownBlock = some k → w.heap.size + 1 < k) := fun k hk => by have := (hN2.block_lt hk).1; omega
 have hO2 := hO2.low hs1
 have hN2 := hN2.low hs1
 obtain ⟨b2, n2, c2, rfl⟩ := hO2.slice
 obtain ⟨b3, n3, c3, rfl⟩ := hN2.slice
 have d0 : w2.cell? ⟨w.heap.size, 0, none⟩ = some (.int .i64 0) := (by rw [hR2.cell]; rfl)
 have d1 : w2.cell? ⟨w.heap.size, 1, none⟩ = some (.slice none 0 0) := (by rw [hR2.cell]; rfl)
 have df0 := hR2.free 0
 have df1 := hR2.free 1
 have hTs := (hT2.setOther (a := ⟨w.heap.size, 0, none⟩) (show w.heap.size + 1 ≠ w.heap.size from by omega) (.int .i64 z)).setOther (a := ⟨w.heap.size, 1, none⟩) (show w.heap.size + 1 ≠ w.heap.size from by omega) (.slice b2 n2 c2)
 have k0 : w2.cell? ⟨w.heap.size + 1, 0, none⟩ = some (.int .i64 0) := (by rw [hT2.cell]; rfl)
 have k1 : w2.cell? ⟨w.heap.size + 1, 1, none⟩ = some (.slice none 0 0) := (by rw [hT2.cell]; rfl)
 have kf0 := hT2.free 0
 have kf1 := hT2.free 1
 have m0 : ((w2.setCell ⟨w.heap.size, 0, none⟩ (.int .i64 z)).setCell ⟨w.heap.size, 1, none⟩ (.slice b2 n2 c2)).cell? ⟨w.heap.size + 1, 0, none⟩ = some (.int .i64 0) := (by rw [hTs.cell]; rfl)
 have m1 : ((w2.setCell ⟨w.heap.size, 0, none⟩ (.int .i64 z)).setCell ⟨w.heap.size, 1, none⟩ (.slice b2 n2 c2)).cell? ⟨w.heap.size + 1, 1, none⟩ = some (.slice none 0 0) := (by rw [hTs.cell]; rfl)
 have mf0 := hTs.free 0
 have mf1 := hTs.free 1
 have hRz := (((hR2.set_ 0 (.int .i64 z)).set_ 1 (.slice b2 n2 c2)).setOther (a := ⟨w.heap.size + 1, 0, none⟩) (show w.heap.size ≠ w.heap.size + 1 from by omega) (.int .i64 a)).setOther (a := ⟨w.heap.size + 1, 1, none⟩) (show w.heap.size ≠ w.heap.size + 1 from by omega) (.slice b3 n3 c3)
 have hTz := (hTs.set_ 0 (.int .i64 a)).set_ 1 (.slice b3 n3 c3)
 have r0 : ((((w2.setCell ⟨w.heap.size, 0, none⟩ (.int .i64 z)).setCell ⟨w.heap.size, 1, none⟩ (.slice b2 n2 c2)).setCell ⟨w.heap.size + 1, 0, none⟩ (.int .i64 a)).setCell ⟨w.heap.size + 1, 1, none⟩ (.slice b3 n3 c3)).cell? ⟨w.heap.size, 0, none⟩ = some (.int .i64 z) := (by rw [hRz.cell]; rfl)
 have r1 : ((((w2.setCell ⟨w.heap.size, 0, none⟩ (.int .i64 z)).setCell ⟨w.heap.size, 1, none⟩ (.slice b2 n2 c2)).setCell ⟨w.heap.size + 1, 0, none⟩ (.int .i64 a)).setCell ⟨w.heap.size + 1, 1, none⟩ (.slice b3 n3 c3)).cell? ⟨w.heap.size, 1, none⟩ = some (.slice b2 n2 c2) := (by rw [hRz.cell]; rfl)
 have t0 : ((((w2.setCell ⟨w.heap.size, 0, none⟩ (.int .i64 z)).setCell ⟨w.heap.size, 1, none⟩ (.slice b2 n2 c2)).setCell ⟨w.heap.size + 1, 0, none⟩ (.int .i64 a)).setCell ⟨w.heap.size + 1, 1, none⟩ (.slice b3 n3 c3)).cell? ⟨w.heap.size + 1, 0, none⟩ = some (.int .i64 a) := (by rw [hTz.cell]; rfl)
 have t1 : ((((w2.setCell ⟨w.heap.size, 0, none⟩ (.int .i64 z)).setCell ⟨w.heap.size, 1, none⟩ (.slice b2 n2 c2)).setCell ⟨w.heap.size + 1, 0, none⟩ (.int .i64 a)).setCell ⟨w.heap.size + 1, 1, none⟩ (.slice b3 n3 c3)).cell? ⟨w.heap.size + 1, 1, none⟩ = some (.slice b3 n3 c3) := (by rw [hTz.cell]; rfl)
 have R0 := Lib.hid r0
 have R1 := Lib.hid r1
 have T0 := Lib.hid t0
 have T1 := Lib.hid t1
 clear r0 r1 t0 t1
 go_wp2
 refine bodyPost_ret (v := .tuple #[.agg #[.int .i64 z, .slice b2 n2 c2], .agg #[.int .i64 a, .slice b3 n3 c3]]) (by simp [results, Tryz.results47, go_sem, R0.out, R1.out, T0.out, T1.out]) rfl ⟨z, .slice b2 n2 c2, l, a, .slice b3 n3 c3, lx, rfl, ?_, hf, hz, hl, ?_, hfx, hfa, hlx, ?_⟩
 ·
  have hne : ∀ k, (.slice b2 n2 c2 : Value).ownBlock = some k → k ≠ w.heap.size := fun k hk => by have := HOB.out k hk; omega
  have hne1 : ∀ k, (.slice b2 n2 c2 : Value).ownBlock = some k → k ≠ w.heap.size + 1 := fun k hk => by have := HOB.out k hk; omega
  exact (((hO2.setCell (a := ⟨w.heap.size, 0, none⟩) hne _).setCell (a := ⟨w.heap.size, 1, none⟩) hne _).setCell (a := ⟨w.heap.size + 1, 0, none⟩) hne1 _).setCell (a := ⟨w.heap.size + 1, 1, none⟩) hne1 _
 ·
  have hne : ∀ k, (.slice b3 n3 c3 : Value).ownBlock = some k → k ≠ w.heap.size := fun k hk => by have := HNB.out k hk; omega
  have hne1 : ∀ k, (.slice b3 n3 c3 : Value).ownBlock = some k → k ≠ w.heap.size + 1 := fun k hk => by have := HNB.out k hk; omega
  exact (((hN2.setCell (a := ⟨w.heap.size, 0, none⟩) hne _).setCell (a := ⟨w.heap.size, 1, none⟩) hne _).setCell (a := ⟨w.heap.size + 1, 0, none⟩) hne1 _).setCell (a := ⟨w.heap.size + 1, 1, none⟩) hne1 _
 ·
  exact (((hw2.setCell (Nat.le_refl _) _).setCell (Nat.le_refl _) _).setCell (Nat.le_succ _) _).setCell (Nat.le_succ _) _

set_option maxHeartbeats 4000000 in
theorem drawWorkPut (A : Option Addr) (n c : Nat) (w : World) (hc : n ≤ c) (hcm : c ≤ maxLen) (hr : RdB w w.heap.size A n) : Calls Tryz.prog 37 #[.slice A n c] w (DrawnVWX w) := by
 have hR0 : Blk (((w.alloc (.cells #[.int .i64 0, .slice none 0 0] 34)).alloc (.cells #[.int .i64 0, .slice none 0 0] 38)).alloc (.cells #[.string ⟨#[]⟩, .int .i64 0, .bool false] 52)) w.heap.size 34 #[.int .i64 0, .slice none 0 0] := ((blkA w #[.int .i64 0, .slice none 0 0] 34).alloc (.cells #[.int .i64 0, .slice none 0 0] 38)).alloc (.cells #[.string ⟨#[]⟩, .int .i64 0, .bool false] 52)
 have hT0 : Blk (((w.alloc (.cells #[.int .i64 0, .slice none 0 0] 34)).alloc (.cells #[.int .i64 0, .slice none 0 0] 38)).alloc (.cells #[.string ⟨#[]⟩, .int .i64 0, .bool false] 52)) (w.heap.size + 1) 38 #[.int .i64 0, .slice none 0 0] := (blkAt #[.int .i64 0, .slice none 0 0] 38 (World.size_alloc _ _)).alloc (.cells #[.string ⟨#[]⟩, .int .i64 0, .bool false] 52)
 have hU0 : Blk (((w.alloc (.cells #[.int .i64 0, .slice none 0 0] 34)).alloc (.cells #[.int .i64 0, .slice none 0 0] 38)).alloc (.cells #[.string ⟨#[]⟩, .int .i64 0, .bool false] 52)) (w.heap.size + 1 + 1) 52 #[.string ⟨#[]⟩, .int .i64 0, .bool false] := blkAt #[.string ⟨#[]⟩, .int .i64 0, .bool false] 52 (by rw [World.size_alloc, World.size_alloc])
 have hw0 : Below w.heap.size w (((w.alloc (.cells #[.int .i64 0, .slice none 0 0] 34)).alloc (.cells #[.int .i64 0, .slice none 0 0] 38)).alloc (.cells #[.string ⟨#[]⟩, .int .i64 0, .bool false] 52)) := below_alloc (below_alloc (below_alloc (Below.refl _ _) _) _) _
 go_enter Tryz.func37, Tryz.ntmps37
 go_wp2_with fail
 refine (open_d A n c _ hc hcm (hr.next hw0)).mono ?_
 rintro e w1 ⟨m, rfl, hq1, hb1⟩
 have hg : (((w.alloc (.cells #[.int .i64 0, .slice none 0 0] 34)).alloc (.cells #[.int .i64 0, .slice none 0 0] 38)).alloc (.cells #[.string ⟨#[]⟩, .int .i64 0, .bool false] 52)).heap.size = w.heap.size + 1 + 1 + 1 := by rw [World.size_alloc, World.size_alloc, World.size_alloc]
 rw [hg] at hq1
 have hw1 := below_next hw0 hb1
 have hR1 := hR0.next hb1
 have hT1 := hT0.next hb1
 have hU1 := hU0.next hb1
 obtain ⟨g, HG, hg1⟩ : ∃ g, Hid (w.heap.size + 1 + 1 + 1 = g) ∧ w.heap.size + 1 + 1 < g := ⟨_, Lib.hid rfl, by omega⟩
 rw [HG.out] at hq1
 have hgw := hq1.lt
 go_wp2_with fail
 try simp only [World.size_alloc]
 try rw [HG.out]
 refine (bothW_d g A m c 0 w1 hq1 (by omega)).mono ?_
 rintro e w2 ⟨z, v2, l, a, v3, lx, rfl, hO2, hf, hz, hl, hN2, hfx, hfa, hlx, hd2⟩
 obtain ⟨q2, h21, h22, hq2⟩ := hd2.rdr
 have hR2 := hR1.drawn (by omega) hd2.grown
 have hT2 := hT1.drawn (by omega) hd2.grown
 have hU2 := hU1.drawn (by omega) hd2.grown
 have hw2 : Below w.heap.size w w2 := hw1.grown hd2.grown hw1.size (fun k hk => by have := Option.some.inj hk; omega)
 have hs1 := hw1.size
 have hUl2 := hU2.lt
 have hgl2 := hq2.lt
 have HOB : Hid (∀ k, v2.ownBlock = some k → g < k) := fun k hk => by have := (hO2.block_lt hk).1; omega
 have HNB : Hid (∀ k, v3.ownBlock = some k → g < k) := fun k hk => by have := (hN2.block_lt hk).1; omega
 have hO2 := hO2.low (show g + 1 ≤ w1.heap.size from hgw)
 have hN2 := hN2.low (show g + 1 ≤ w1.heap.size from hgw)
 obtain ⟨b2, c2, rfl, hy1, hy2, hy3⟩ := hO2.read
 clear hy1 hy2 hy3
 obtain ⟨b3, n3, c3, rfl⟩ := hN2.slice
 have hb4 : Below w2.heap.size w2 ((w2.alloc (.cells #[.int .i64 z, .slice b2 l.length c2] 34)).alloc (.cells #[.int .i64 a, .slice b3 n3 c3] 38)) := below_alloc (below_alloc (Below.refl _ _) _) _
 have hX4 : Blk ((w2.alloc (.cells #[.int .i64 z, .slice b2 l.length c2] 34)).alloc (.cells #[.int .i64 a, .slice b3 n3 c3] 38)) w2.heap.size 34 #[.int .i64 z, .slice b2 l.length c2] := (blkA w2 _ _).alloc _
 have hY4 : Blk ((w2.alloc (.cells #[.int .i64 z, .slice b2 l.length c2] 34)).alloc (.cells #[.int .i64 a, .slice b3 n3 c3] 38)) (w2.heap.size + 1) 38 #[.int .i64 a, .slice b3 n3 c3] := blkAt _ _ (World.size_alloc _ _)
 have hR4 := hR2.next hb4
 have hT4 := hT2.next hb4
 have hU4 := hU2.next hb4
 have hO4 := hO2.next hb4
 have hN4 := hN2.next hb4
 have hq4 := hq2.next hb4
 have hw4 := below_next hw2 hb4
 obtain ⟨sv, HSV, hsv, hsv2⟩ : ∃ sv, Hid (w2.heap.size = sv) ∧ g < sv ∧ w.heap.size + 1 + 1 < sv := ⟨_, Lib.hid rfl, by omega, by omega⟩
 rw [HSV.out] at hX4 hY4
 have hal := atL_length l z
 have hfr := fitR_at hf z
 obtain ⟨al, HAL⟩ : ∃ al, Hid (atL l z = al) := ⟨_, Lib.hid rfl⟩
 rw [HAL.out] at hal hfr
 go_wp2
 try rw [HSV.out]
 have hX5 := hX4.next (Below.refl _ ((w2.alloc (.cells #[.int .i64 z, .slice b2 l.length c2] 34)).alloc (.cells #[.int .i64 a, .slice b3 n3 c3] 38))).drew
 have hY5 := hY4.next (Below.refl _ ((w2.alloc (.cells #[.int .i64 z, .slice b2 l.length c2] 34)).alloc (.cells #[.int .i64 a, .slice b3 n3 c3] 38))).drew
 have hR5 := hR4.next (Below.refl _ ((w2.alloc (.cells #[.int .i64 z, .slice b2 l.length c2] 34)).alloc (.cells #[.int .i64 a, .slice b3 n3 c3] 38))).drew
 have hT5 := hT4.next (Below.refl _ ((w2.alloc (.cells #[.int .i64 z, .slice b2 l.length c2] 34)).alloc (.cells #[.int .i64 a, .slice b3 n3 c3] 38))).drew
 have hU5 := hU4.next (Below.refl _ ((w2.alloc (.cells #[.int .i64 z, .slice b2 l.length c2] 34)).alloc (.cells #[.int .i64 a, .slice b3 n3 c3] 38))).drew
 have hO5 := hO4.next (Below.refl _ ((w2.alloc (.cells #[.int .i64 z, .slice b2 l.length c2] 34)).alloc (.cells #[.int .i64 a, .slice b3 n3 c3] 38))).drew
 have hN5 := hN4.next (Below.refl _ ((w2.alloc (.cells #[.int .i64 z, .slice b2 l.length c2] 34)).alloc (.cells #[.int .i64 a, .slice b3 n3 c3] 38))).drew
 have hq5 := hq4.next (Below.refl _ ((w2.alloc (.cells #[.int .i64 z, .slice b2 l.length c2] 34)).alloc (.cells #[.int .i64 a, .slice b3 n3 c3] 38))).drew
 have hw5 := hw4.drew
 refine wp_region_held_drew (S := (fun W => W.cell? ⟨sv, 0, none⟩ = some (.int .i64 z) ∧ W.cell? ⟨sv, 1, none⟩ = some (.slice b2 l.length c2) ∧ W.cell? ⟨sv + 1, 0, none⟩ = some (.int .i64 a) ∧ W.cell? ⟨sv + 1, 1, none⟩ = some (.slice b3 n3 c3))) (by kernel_rfl) ?_ (fun hHeld => ?_)
 focus ((try dsimp only); (exact ⟨by rw [hX5.cell]; rfl, by rw [hX5.cell]; rfl, by rw [hY5.cell]; rfl, by rw [hY5.cell]; rfl⟩))
 obtain ⟨wd, HWD⟩ : ∃ wd, Hid (((w2.alloc (.cells #[.int .i64 z, .slice b2 l.length c2] 34)).alloc (.cells #[.int .i64 a, .slice b3 n3 c3] 38)).drew = wd) := ⟨_, Lib.hid rfl⟩
 rw [HWD.out] at hHeld hX5 hY5 hR5 hT5 hU5 hO5 hN5 hq5 hw5
 rw [HWD.out]
 refine tk 0 ?_
 refine tk 1 ?_
 refine tk 2 ?_
 refine tk 3 ?_
 refine tk 4 ?_
 refine tk 5 ?_
 (refine rd1 6 (fun K hK => ?_); go_simp; (go_at_call 59; refine (specAt z b2 c2 l z _ hO5.rd'.2.1 (by omega) hO5.rd'.2.2.2).mono ?_; rw [HAL.out]; rintro e w6 ⟨v6, rfl, hA6, hb6⟩; have hX6 := hX5.next hb6; have hY6 := hY5.next hb6; have hR6 := hR5.next hb6; have hT6 := hT5.next hb6; have hU6 := hU5.next hb6; have hO6 := hO5.next hb6; have hN6 := hN5.next hb6; have hq6 := hq5.next hb6; have hw6 := below_next hw5 hb6; obtain ⟨A6, c6, rfl, hv1, hv2, hv3⟩ := hA6.read; clear hv1 hv2 hv3; have hl6 := hq5.lt); go_wp2_with fail; refine hK.out _ _ ?_ (fun hHeld => ?_); (focus ((try dsimp only); (exact ⟨by rw [hX6.cell]; rfl, by rw [hX6.cell]; rfl, by rw [hY6.cell]; rfl, by rw [hY6.cell]; rfl⟩))); clear hK K; (try simp only [Act.put, pa, pb, pc]))
 (refine rd1 7 (fun K hK => ?_); go_simp; (go_at_call 87; refine (write3_d g A m c q2 A6 c6 al _ hq6 (by omega) hfr (by omega) _ hl6 hA6).mono ?_; rintro e w7 ⟨x, rfl, hx, hd7⟩; have hX7 := hX6.drawn (by omega) hd7.grown; have hY7 := hY6.drawn (by omega) hd7.grown; have hR7 := hR6.drawn (by omega) hd7.grown; have hT7 := hT6.drawn (by omega) hd7.grown; have hU7 := hU6.drawn (by omega) hd7.grown; have hO7 := hO6.drawn (show g < g + 1 from Nat.lt_succ_self g) hd7.grown; have hN7 := hN6.drawn (show g < g + 1 from Nat.lt_succ_self g) hd7.grown; have hw7 : Below w.heap.size w w7 := hw6.grown hd7.grown hw6.size (fun k hk => by have := Option.some.inj hk; omega)); go_wp2_with fail; refine hK.out _ _ ?_ (fun hHeld => ?_); (focus ((try dsimp only); (exact ⟨by rw [hX7.cell]; rfl, by rw [hX7.cell]; rfl, by rw [hY7.cell]; rfl, by rw [hY7.cell]; rfl⟩))); clear hK K; (try simp only [Act.put, pa, pb, pc]))
 have d0 : w7.cell? ⟨w.heap.size, 0, none⟩ = some (.int .i64 0) := (by rw [hR7.cell]; rfl)
 have d1 : w7.cell? ⟨w.heap.size, 1, none⟩ = some (.slice none 0 0) := (by rw [hR7.cell]; rfl)
 have df0 := hR7.free 0
 have df1 := hR7.free 1
 have hX8 := (hX7.setOther (a := ⟨w.heap.size, 0, none⟩) (show sv ≠ w.heap.size from by omega) (.int .i64 z)).setOther (a := ⟨w.heap.size, 1, none⟩) (show sv ≠ w.heap.size from by omega) (.slice b2 l.length c2)
 have hY8 := (hY7.setOther (a := ⟨w.heap.size, 0, none⟩) (show sv + 1 ≠ w.heap.size from by omega) (.int .i64 z)).setOther (a := ⟨w.heap.size, 1, none⟩) (show sv + 1 ≠ w.heap.size from by omega) (.slice b2 l.length c2)
 have hT8 := (hT7.setOther (a := ⟨w.heap.size, 0, none⟩) (show w.heap.size + 1 ≠ w.heap.size from by omega) (.int .i64 z)).setOther (a := ⟨w.heap.size, 1, none⟩) (show w.heap.size + 1 ≠ w.heap.size from by omega) (.slice b2 l.length c2)
 have hU8 := (hU7.setOther (a := ⟨w.heap.size, 0, none⟩) (show w.heap.size + 1 + 1 ≠ w.heap.size from by omega) (.int .i64 z)).setOther (a := ⟨w.heap.size, 1, none⟩) (show w.heap.size + 1 + 1 ≠ w.heap.size from by omega) (.slice b2 l.length c2)
 refine rd1 8 (fun K hK => ?_)
 go_simp
 refine hK.out _ _ ?_ (fun hHeld => ?_)
 focus ((try dsimp only); (exact ⟨by rw [hX8.cell]; rfl, by rw [hX8.cell]; rfl, by rw [hY8.cell]; rfl, by rw [hY8.cell]; rfl⟩))
 clear hK K
 try simp only [Act.put, pa, pb, pc]
 clear d0 d1 df0 df1
 have d0 : ((w7.setCell ⟨w.heap.size, 0, none⟩ (.int .i64 z)).setCell ⟨w.heap.size, 1, none⟩ (.slice b2 l.length c2)).cell? ⟨w.heap.size + 1, 0, none⟩ = some (.int .i64 0) := (by rw [hT8.cell]; rfl)
 have d1 : ((w7.setCell ⟨w.heap.size, 0, none⟩ (.int .i64 z)).setCell ⟨w.heap.size, 1, none⟩ (.slice b2 l.length c2)).cell? ⟨w.heap.size + 1, 1, none⟩ = some (.slice none 0 0) := (by rw [hT8.cell]; rfl)
 have df0 := hT8.free 0
 have df1 := hT8.free 1
 have hX9 := (hX8.setOther (a := ⟨w.heap.size + 1, 0, none⟩) (show sv ≠ w.heap.size + 1 from by omega) (.int .i64 a)).setOther (a := ⟨w.heap.size + 1, 1, none⟩) (show sv ≠ w.heap.size + 1 from by omega) (.slice b3 n3 c3)
 have hY9 := (hY8.setOther (a := ⟨w.heap.size + 1, 0, none⟩) (show sv + 1 ≠ w.heap.size + 1 from by omega) (.int .i64 a)).setOther (a := ⟨w.heap.size + 1, 1, none⟩) (show sv + 1 ≠ w.heap.size + 1 from by omega) (.slice b3 n3 c3)
 have hU9 := (hU8.setOther (a := ⟨w.heap.size + 1, 0, none⟩) (show w.heap.size + 1 + 1 ≠ w.heap.size + 1 from by omega) (.int .i64 a)).setOther (a := ⟨w.heap.size + 1, 1, none⟩) (show w.heap.size + 1 + 1 ≠ w.heap.size + 1 from by omega) (.slice b3 n3 c3)
 refine rd1 9 (fun K hK => ?_)
 go_simp
 refine hK.out _ _ ?_ (fun hHeld => ?_)
 focus ((try dsimp only); (exact ⟨by rw [hX9.cell]; rfl, by rw [hX9.cell]; rfl, by rw [hY9.cell]; rfl, by rw [hY9.cell]; rfl⟩))
 clear hK K
 try simp only [Act.put, pa, pb, pc]
 clear d0 d1 df0 df1
 have d0 : ((((w7.setCell ⟨w.heap.size, 0, none⟩ (.int .i64 z)).setCell ⟨w.heap.size, 1, none⟩ (.slice b2 l.length c2)).setCell ⟨w.heap.size + 1, 0, none⟩ (.int .i64 a)).setCell ⟨w.heap.size + 1, 1, none⟩ (.slice b3 n3 c3)).cell? ⟨w.heap.size + 1 + 1, 0, none⟩ = some (.string ⟨#[]⟩) := (by rw [hU9.cell]; rfl)
 have d1 : ((((w7.setCell ⟨w.heap.size, 0, none⟩ (.int .i64 z)).setCell ⟨w.heap.size, 1, none⟩ (.slice b2 l.length c2)).setCell ⟨w.heap.size + 1, 0, none⟩ (.int .i64 a)).setCell ⟨w.heap.size + 1, 1, none⟩ (.slice b3 n3 c3)).cell? ⟨w.heap.size + 1 + 1, 1, none⟩ = some (.int .i64 0) := (by rw [hU9.cell]; rfl)
 have d2 : ((((w7.setCell ⟨w.heap.size, 0, none⟩ (.int .i64 z)).setCell ⟨w.heap.size, 1, none⟩ (.slice b2 l.length c2)).setCell ⟨w.heap.size + 1, 0, none⟩ (.int .i64 a)).setCell ⟨w.heap.size + 1, 1, none⟩ (.slice b3 n3 c3)).cell? ⟨w.heap.size + 1 + 1, 2, none⟩ = some (.bool false) := (by rw [hU9.cell]; rfl)
 have df0 := hU9.free 0
 have df1 := hU9.free 1
 have df2 := hU9.free 2
 have hX10 := ((((hX9).setOther (a := ⟨w.heap.size + 1 + 1, 0, none⟩) (show sv ≠ w.heap.size + 1 + 1 from by omega) (.string x.k)).setOther (a := ⟨w.heap.size + 1 + 1, 1, none⟩) (show sv ≠ w.heap.size + 1 + 1 from by omega) (.int .i64 x.n)).setOther (a := ⟨w.heap.size + 1 + 1, 2, none⟩) (show sv ≠ w.heap.size + 1 + 1 from by omega) (.bool x.g))
 have hY10 := ((((hY9).setOther (a := ⟨w.heap.size + 1 + 1, 0, none⟩) (show sv + 1 ≠ w.heap.size + 1 + 1 from by omega) (.string x.k)).setOther (a := ⟨w.heap.size + 1 + 1, 1, none⟩) (show sv + 1 ≠ w.heap.size + 1 + 1 from by omega) (.int .i64 x.n)).setOther (a := ⟨w.heap.size + 1 + 1, 2, none⟩) (show sv + 1 ≠ w.heap.size + 1 + 1 from by omega) (.bool x.g))
 refine rd1 10 (fun K hK => ?_)
 go_simp
 refine hK.out _ _ ?_ (fun hHeld => ?_)
 focus ((try dsimp only); (exact ⟨by rw [hX10.cell]; rfl, by rw [hX10.cell]; rfl, by rw [hY10.cell]; rfl, by rw [hY10.cell]; rfl⟩))
 clear hK K
 try simp only [Act.put, pa, pb, pc]
 clear d0 d1 d2 df0 df1 df2
 refine wpAnyH_done (by kernel_rfl) ?_ _
 have hRz := (((((((hR7.set_ 0 (.int .i64 z)).set_ 1 (.slice b2 l.length c2)).setOther (a := ⟨w.heap.size + 1, 0, none⟩) (show w.heap.size ≠ w.heap.size + 1 from by omega) (.int .i64 a)).setOther (a := ⟨w.heap.size + 1, 1, none⟩) (show w.heap.size ≠ w.heap.size + 1 from by omega) (.slice b3 n3 c3)).setOther (a := ⟨w.heap.size + 1 + 1, 0, none⟩) (show w.heap.size ≠ w.heap.size + 1 + 1 from by omega) (.string x.k)).setOther (a := ⟨w.heap.size + 1 + 1, 1, none⟩) (show w.heap.size ≠ w.heap.size + 1 + 1 from by omega) (.int .i64 x.n)).setOther (a := ⟨w.heap.size + 1 + 1, 2, none⟩) (show w.heap.size ≠ w.heap.size + 1 + 1 from by omega) (.bool x.g))
 have hTz := ((((((hT8.set_ 0 (.int .i64 a)).set_ 1 (.slice b3 n3 c3))).setOther (a := ⟨w.heap.size + 1 + 1, 0, none⟩) (show w.heap.size + 1 ≠ w.heap.size + 1 + 1 from by omega) (.string x.k)).setOther (a := ⟨w.heap.size + 1 + 1, 1, none⟩) (show w.heap.size + 1 ≠ w.heap.size + 1 + 1 from by omega) (.int .i64 x.n)).setOther (a := ⟨w.heap.size + 1 + 1, 2, none⟩) (show w.heap.size + 1 ≠ w.heap.size + 1 + 1 from by omega) (.bool x.g))
 have hUz := ((hU9.set_ 0 (.string x.k)).set_ 1 (.int .i64 x.n)).set_ 2 (.bool x.g)
 have r0 : (((((((w7.setCell ⟨w.heap.size, 0, none⟩ (.int .i64 z)).setCell ⟨w.heap.size, 1, none⟩ (.slice b2 l.length c2)).setCell ⟨w.heap.size + 1, 0, none⟩ (.int .i64 a)).setCell ⟨w.heap.size + 1, 1, none⟩ (.slice b3 n3 c3)).setCell ⟨w.heap.size + 1 + 1, 0, none⟩ (.string x.k)).setCell ⟨w.heap.size + 1 + 1, 1, none⟩ (.int .i64 x.n)).setCell ⟨w.heap.size + 1 + 1, 2, none⟩ (.bool x.g)).cell? ⟨w.heap.size, 0, none⟩ = some (.int .i64 z) := (by rw [hRz.cell]; rfl)
 have r1 : (((((((w7.setCell ⟨w.heap.size, 0, none⟩ (.int .i64 z)).setCell ⟨w.heap.size, 1, none⟩ (.slice b2 l.length c2)).setCell ⟨w.heap.size + 1, 0, none⟩ (.int .i64 a)).setCell ⟨w.heap.size + 1, 1, none⟩ (.slice b3 n3 c3)).setCell ⟨w.heap.size + 1 + 1, 0, none⟩ (.string x.k)).setCell ⟨w.heap.size + 1 + 1, 1, none⟩ (.int .i64 x.n)).setCell ⟨w.heap.size + 1 + 1, 2, none⟩ (.bool x.g)).cell? ⟨w.heap.size, 1, none⟩ = some (.slice b2 l.length c2) := (by rw [hRz.cell]; rfl)
 have t0 : (((((((w7.setCell ⟨w.heap.size, 0, none⟩ (.int .i64 z)).setCell ⟨w.heap.size, 1, none⟩ (.slice b2 l.length c2)).setCell ⟨w.heap.size + 1, 0, none⟩ (.int .i64 a)).setCell ⟨w.heap.size + 1, 1, none⟩ (.slice b3 n3 c3)).setCell ⟨w.heap.size + 1 + 1, 0, none⟩ (.string x.k)).setCell ⟨w.heap.size + 1 + 1, 1, none⟩ (.int .i64 x.n)).setCell ⟨w.heap.size + 1 + 1, 2, none⟩ (.bool x.g)).cell? ⟨w.heap.size + 1, 0, none⟩ = some (.int .i64 a) := (by rw [hTz.cell]; rfl)
 have t1 : (((((((w7.setCell ⟨w.heap.size, 0, none⟩ (.int .i64 z)).setCell ⟨w.heap.size, 1, none⟩ (.slice b2 l.length c2)).setCell ⟨w.heap.size + 1, 0, none⟩ (.int .i64 a)).setCell ⟨w.heap.size + 1, 1, none⟩ (.slice b3 n3 c3)).setCell ⟨w.heap.size + 1 + 1, 0, none⟩ (.string x.k)).setCell ⟨w.heap.size + 1 + 1, 1, none⟩ (.int .i64 x.n)).setCell ⟨w.heap.size + 1 + 1, 2, none⟩ (.bool x.g)).cell? ⟨w.heap.size + 1, 1, none⟩ = some (.slice b3 n3 c3) := (by rw [hTz.cell]; rfl)
 have u0 : (((((((w7.setCell ⟨w.heap.size, 0, none⟩ (.int .i64 z)).setCell ⟨w.heap.size, 1, none⟩ (.slice b2 l.length c2)).setCell ⟨w.heap.size + 1, 0, none⟩ (.int .i64 a)).setCell ⟨w.heap.size + 1, 1, none⟩ (.slice b3 n3 c3)).setCell ⟨w.heap.size + 1 + 1, 0, none⟩ (.string x.k)).setCell ⟨w.heap.size + 1 + 1, 1, none⟩ (.int .i64 x.n)).setCell ⟨w.heap.size + 1 + 1, 2, none⟩ (.bool x.g)).cell? ⟨w.heap.size + 1 + 1, 0, none⟩ = some (.string x.k) := (by rw [hUz.cell]; rfl)
 have u1 : (((((((w7.setCell ⟨w.heap.size, 0, none⟩ (.int .i64 z)).setCell ⟨w.heap.size, 1, none⟩ (.slice b2 l.length c2)).setCell ⟨w.heap.size + 1, 0, none⟩ (.int .i64 a)).setCell ⟨w.heap.size + 1, 1, none⟩ (.slice b3 n3 c3)).setCell ⟨w.heap.size + 1 + 1, 0, none⟩ (.string x.k)).setCell ⟨w.heap.size + 1 + 1, 1, none⟩ (.int .i64 x.n)).setCell ⟨w.heap.size + 1 + 1, 2, none⟩ (.bool x.g)).cell? ⟨w.heap.size + 1 + 1, 1, none⟩ = some (.int .i64 x.n) := (by rw [hUz.cell]; rfl)
 have u2 : (((((((w7.setCell ⟨w.heap.size, 0, none⟩ (.int .i64 z)).setCell ⟨w.heap.size, 1, none⟩ (.slice b2 l.length c2)).setCell ⟨w.heap.size + 1, 0, none⟩ (.int .i64 a)).setCell ⟨w.heap.size + 1, 1, none⟩ (.slice b3 n3 c3)).setCell ⟨w.heap.size + 1 + 1, 0, none⟩ (.string x.k)).setCell ⟨w.heap.size + 1 + 1, 1, none⟩ (.int .i64 x.n)).setCell ⟨w.heap.size + 1 + 1, 2, none⟩ (.bool x.g)).cell? ⟨w.heap.size + 1 + 1, 2, none⟩ = some (.bool x.g) := (by rw [hUz.cell]; rfl)
 go_wp2
 refine bodyPost_ret (v := .tuple #[.agg #[.int .i64 z, .slice b2 l.length c2], .agg #[.int .i64 a, .slice b3 n3 c3], .agg #[.string x.k, .int .i64 x.n, .bool x.g]]) (by simp [results, Tryz.results37, go_sem, r0, r1, t0, t1, u0, u1, u2]) rfl ⟨z, .slice b2 l.length c2, l, a, .slice b3 n3 c3, lx, x, rfl, ?_, hf, hz, hl, ?_, hfx, hfa, hlx, hx, ?_⟩
 ·
  have hne : ∀ k, (.slice b2 l.length c2 : Value).ownBlock = some k → k ≠ w.heap.size := fun k hk => by have := HOB.out k hk; omega
  have hne1 : ∀ k, (.slice b2 l.length c2 : Value).ownBlock = some k → k ≠ w.heap.size + 1 := fun k hk => by have := HOB.out k hk; omega
  have hne2 : ∀ k, (.slice b2 l.length c2 : Value).ownBlock = some k → k ≠ w.heap.size + 1 + 1 := fun k hk => by have := HOB.out k hk; omega
  exact (((((((hO7.setCell (a := ⟨w.heap.size, 0, none⟩) hne _).setCell (a := ⟨w.heap.size, 1, none⟩) hne _).setCell (a := ⟨w.heap.size + 1, 0, none⟩) hne1 _).setCell (a := ⟨w.heap.size + 1, 1, none⟩) hne1 _).setCell (a := ⟨w.heap.size + 1 + 1, 0, none⟩) hne2 _).setCell (a := ⟨w.heap.size + 1 + 1, 1, none⟩) hne2 _).setCell (a := ⟨w.heap.size + 1 + 1, 2, none⟩) hne2 _).low (by omega)
 ·
  have hne : ∀ k, (.slice b3 n3 c3 : Value).ownBlock = some k → k ≠ w.heap.size := fun k hk => by have := HNB.out k hk; omega
  have hne1 : ∀ k, (.slice b3 n3 c3 : Value).ownBlock = some k → k ≠ w.heap.size + 1 := fun k hk => by have := HNB.out k hk; omega
  have hne2 : ∀ k, (.slice b3 n3 c3 : Value).ownBlock = some k → k ≠ w.heap.size + 1 + 1 := fun k hk => by have := HNB.out k hk; omega
  exact (((((((hN7.setCell (a := ⟨w.heap.size, 0, none⟩) hne _).setCell (a := ⟨w.heap.size, 1, none⟩) hne _).setCell (a := ⟨w.heap.size + 1, 0, none⟩) hne1 _).setCell (a := ⟨w.heap.size + 1, 1, none⟩) hne1 _).setCell (a := ⟨w.heap.size + 1 + 1, 0, none⟩) hne2 _).setCell (a := ⟨w.heap.size + 1 + 1, 1, none⟩) hne2 _).setCell (a := ⟨w.heap.size + 1 + 1, 2, none⟩) hne2 _).low (by omega)
 ·
  exact (((((((hw7.setCell (show w.heap.size ≤ w.heap.size from by omega) _).setCell (show w.heap.size ≤ w.heap.size from by omega) _).setCell (show w.heap.size ≤ w.heap.size + 1 from by omega) _).setCell (show w.heap.size ≤ w.heap.size + 1 from by omega) _).setCell (show w.heap.size ≤ w.heap.size + 1 + 1 from by omega) _).setCell (show w.heap.size ≤ w.heap.size + 1 + 1 from by omega) _).setCell (show w.heap.size ≤ w.heap.size + 1 + 1 from by omega) _)

end Go.Proofs.YtbeklnhngjmpiaaGreat
