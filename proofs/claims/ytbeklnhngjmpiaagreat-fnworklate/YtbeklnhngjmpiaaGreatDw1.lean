/- The draws of chapter 3: one thing that is done. -/
import Derived.Test.YtbeklnhngjmpiaaGreatDv2
namespace Go.Proofs.YtbeklnhngjmpiaaGreat
open Go.RowKit
set_option linter.unusedVariables false
set_option maxRecDepth 100000

set_option maxHeartbeats 2000000 in
theorem write3_d (g : Nat) (A : Option Addr) (n c p : Nat) (A' : Option Addr) (c' : Nat) (l : List R) (w : World) (h : Rdr w g A n c p) (hp : p ≤ 990000) (hfit : FitR l) (hl : l.length ≤ 1000) (base : Nat) (hg : g < base) (hown : OwnR w base (.slice A' l.length c') l) :
  Calls Tryz.prog 87 #[.pointer (some ⟨g, 0, none⟩), .slice A' l.length c'] w fun e w' => ∃ x : X, e = .returned (.agg #[.string x.k, .int .i64 x.n, .bool x.g]) ∧ FitX x ∧ Dw g A n c p 6 w w' := by
 have hgl := h.lt
 have hr0 := h.alloc (.cells #[.string ⟨#[]⟩, .int .i64 0, .bool false] 52)
 have hR0 := blkA w #[.string ⟨#[]⟩, .int .i64 0, .bool false] 52
 have hgr0 : w.grownBy (w.alloc (.cells #[.string ⟨#[]⟩, .int .i64 0, .bool false] 52)) (some g) := grown_alloc (World.grownBy.refl _ _) _
 have ho0 := hown.alloc (.cells #[.string ⟨#[]⟩, .int .i64 0, .bool false] 52)
 go_enter Tryz.func87, Tryz.ntmps87
 go_wp2_with fail
 refine (near_d g A n c p A' c' l _ hr0 (by omega) hfit hl base hg ho0).mono ?_
 rintro e w1 ⟨s, rfl, hs, hd1⟩
 obtain ⟨q1, h11, h12, hq1⟩ := hd1.rdr
 have hgr1 := hgr0.trans hd1.grown
 have hR1 := hR0.drawn (by omega) hd1.grown
 go_wp2_with fail
 refine (value_d g A n c q1 w1 hq1 (by omega)).mono ?_
 rintro e w2 ⟨z, rfl, hz, hd2⟩
 obtain ⟨q2, h21, h22, hq2⟩ := hd2.rdr
 have hgr2 := hgr1.trans hd2.grown
 have hR2 := hR1.drawn (by omega) hd2.grown
 have hgl2 := hq2.lt
 have hRl2 := hR2.lt
 have hX3 := blkA w2 #[.string s, .int .i64 z, .bool false] 52
 have hR3 := hR2.alloc (.cells #[.string s, .int .i64 z, .bool false] 52)
 have hgr3 := grown_alloc hgr2 (.cells #[.string s, .int .i64 z, .bool false] 52)
 have hq3 := hq2.alloc (.cells #[.string s, .int .i64 z, .bool false] 52)
 clear hd1 hd2 hgr0 hgr1 hgr2 hR0 hR1 hR2 ho0 hown
 go_wp2_with fail
 refine (pick_d g A n c q2 12 _ hq3 (by omega) (by omega) (by omega)).mono ?_
 rintro e w4 ⟨k, rfl, hk, hd4⟩
 obtain ⟨q4, h41, h42, hq4⟩ := hd4.rdr
 have hgr4 := hgr3.trans hd4.grown
 have hR4 := hR3.drawn (by omega) hd4.grown
 have hX4 := hX3.drawn (by omega) hd4.grown
 clear hd4 hgr3 hR3 hX3 hq3
 obtain ⟨xb, HXb⟩ : ∃ xb, Hid (w2.heap.size = xb) := ⟨_, Lib.hid rfl⟩
 have hxb : w.heap.size < xb := by have := HXb.out; omega
 rw [HXb.out] at hX4
 try rw [HXb.out]
 have x0 : w4.cell? ⟨xb, 0, none⟩ = some (.string s) := by rw [hX4.cell]; rfl
 have x1 : w4.cell? ⟨xb, 1, none⟩ = some (.int .i64 z) := by rw [hX4.cell]; rfl
 have x2 : w4.cell? ⟨xb, 2, none⟩ = some (.bool false) := by rw [hX4.cell]; rfl
 have d0 : w4.cell? ⟨w.heap.size, 0, none⟩ = some (.string ⟨#[]⟩) := by rw [hR4.cell]; rfl
 have d1 : w4.cell? ⟨w.heap.size, 1, none⟩ = some (.int .i64 0) := by rw [hR4.cell]; rfl
 have d2 : w4.cell? ⟨w.heap.size, 2, none⟩ = some (.bool false) := by rw [hR4.cell]; rfl
 have f0 := hR4.free 0
 have f1 := hR4.free 1
 have f2 := hR4.free 2
 have g2 := hX4.free 2
 have HZ := Lib.hid hz
 clear hz
 by_cases hk0 : k = 0
 ·
  have e0 : ((k : Int) == 0) = true := by simp [hk0]
  clear hk0
  go_wp2
  refine bodyPost_ret (v := .agg #[.string s, .int .i64 0, .bool true]) (by simp [results, Tryz.results87, go_sem, d0, d1, d2]) rfl ⟨⟨s, 0, true⟩, rfl, ⟨hs, (by decide : (-9223372036854775808 : Int) ≤ 0), (by decide : (0 : Int) ≤ 9223372036854775807)⟩, ?_⟩
  have hbE : Below w.heap.size w4 (((w4.setCell ⟨w.heap.size, 0, none⟩ (.string s)).setCell ⟨w.heap.size, 1, none⟩ (.int .i64 0)).setCell ⟨w.heap.size, 2, none⟩ (.bool true)) := (((Below.refl w.heap.size w4).setCell (Nat.le_refl _) _).setCell (Nat.le_refl _) _).setCell (Nat.le_refl _) _
  exact ⟨belowKeeps hgr4 hbE (Nat.le_refl _), q4, by omega, by omega, hq4.belowR hbE hgl⟩
 by_cases hk1 : k = 1
 ·
  have e1 : ((k : Int) == 1) = true := by simp [hk1]
  have e0 : ((k : Int) == 0) = false := by simp; omega
  clear hk1
  go_wp2
  refine bodyPost_ret (v := .agg #[.string s, .int .i64 0, .bool true]) (by simp [results, Tryz.results87, go_sem, d0, d1, d2]) rfl ⟨⟨s, 0, true⟩, rfl, ⟨hs, (by decide : (-9223372036854775808 : Int) ≤ 0), (by decide : (0 : Int) ≤ 9223372036854775807)⟩, ?_⟩
  have hbE : Below w.heap.size w4 (((w4.setCell ⟨w.heap.size, 0, none⟩ (.string s)).setCell ⟨w.heap.size, 1, none⟩ (.int .i64 0)).setCell ⟨w.heap.size, 2, none⟩ (.bool true)) := (((Below.refl w.heap.size w4).setCell (Nat.le_refl _) _).setCell (Nat.le_refl _) _).setCell (Nat.le_refl _) _
  exact ⟨belowKeeps hgr4 hbE (Nat.le_refl _), q4, by omega, by omega, hq4.belowR hbE hgl⟩
 by_cases hk2 : k = 2
 ·
  have e2 : ((k : Int) == 2) = true := by simp [hk2]
  have e0 : ((k : Int) == 0) = false := by simp; omega
  have e1 : ((k : Int) == 1) = false := by simp; omega
  clear hk2
  go_wp2
  refine bodyPost_ret (v := .agg #[.string s, .int .i64 0, .bool true]) (by simp [results, Tryz.results87, go_sem, d0, d1, d2]) rfl ⟨⟨s, 0, true⟩, rfl, ⟨hs, (by decide : (-9223372036854775808 : Int) ≤ 0), (by decide : (0 : Int) ≤ 9223372036854775807)⟩, ?_⟩
  have hbE : Below w.heap.size w4 (((w4.setCell ⟨w.heap.size, 0, none⟩ (.string s)).setCell ⟨w.heap.size, 1, none⟩ (.int .i64 0)).setCell ⟨w.heap.size, 2, none⟩ (.bool true)) := (((Below.refl w.heap.size w4).setCell (Nat.le_refl _) _).setCell (Nat.le_refl _) _).setCell (Nat.le_refl _) _
  exact ⟨belowKeeps hgr4 hbE (Nat.le_refl _), q4, by omega, by omega, hq4.belowR hbE hgl⟩
 have e0 : ((k : Int) == 0) = false := by simp; omega
 have e1 : ((k : Int) == 1) = false := by simp; omega
 have e2 : ((k : Int) == 2) = false := by simp; omega
 by_cases hk3 : k = 3
 ·
  have e3 : ((k : Int) == 3) = true := by simp [hk3]
  clear hk3
  have hX5 := hX4.set_ 2 (.bool true)
  have hR5 := hR4.setOther (a := ⟨xb, 2, none⟩) (show w.heap.size ≠ xb from by omega) (.bool true)
  have y0 : (w4.setCell ⟨xb, 2, none⟩ (.bool true)).cell? ⟨xb, 0, none⟩ = some (.string s) := by rw [hX5.cell]; rfl
  have y1 : (w4.setCell ⟨xb, 2, none⟩ (.bool true)).cell? ⟨xb, 1, none⟩ = some (.int .i64 z) := by rw [hX5.cell]; rfl
  have y2 : (w4.setCell ⟨xb, 2, none⟩ (.bool true)).cell? ⟨xb, 2, none⟩ = some (.bool true) := by rw [hX5.cell]; rfl
  have c0 : (w4.setCell ⟨xb, 2, none⟩ (.bool true)).cell? ⟨w.heap.size, 0, none⟩ = some (.string ⟨#[]⟩) := by rw [hR5.cell]; rfl
  have c1 : (w4.setCell ⟨xb, 2, none⟩ (.bool true)).cell? ⟨w.heap.size, 1, none⟩ = some (.int .i64 0) := by rw [hR5.cell]; rfl
  have c2 : (w4.setCell ⟨xb, 2, none⟩ (.bool true)).cell? ⟨w.heap.size, 2, none⟩ = some (.bool false) := by rw [hR5.cell]; rfl
  have u0 := hR5.free 0
  have u1 := hR5.free 1
  have u2 := hR5.free 2
  go_wp2
  refine bodyPost_ret (v := .agg #[.string s, .int .i64 z, .bool true]) (by simp [results, Tryz.results87, go_sem, c0, c1, c2]) rfl ⟨⟨s, z, true⟩, rfl, ⟨hs, HZ.out.1, HZ.out.2⟩, ?_⟩
  have hb5 : Below w.heap.size w4 (w4.setCell ⟨xb, 2, none⟩ (.bool true)) := (Below.refl w.heap.size w4).setCell (show w.heap.size ≤ xb from by omega) _
  have hbE : Below w.heap.size w4 ((((w4.setCell ⟨xb, 2, none⟩ (.bool true)).setCell ⟨w.heap.size, 0, none⟩ (.string s)).setCell ⟨w.heap.size, 1, none⟩ (.int .i64 z)).setCell ⟨w.heap.size, 2, none⟩ (.bool true)) := ((hb5.setCell (Nat.le_refl _) _).setCell (Nat.le_refl _) _).setCell (Nat.le_refl _) _
  exact ⟨belowKeeps hgr4 hbE (Nat.le_refl _), q4, by omega, by omega, hq4.belowR hbE hgl⟩
 ·
  have e3 : ((k : Int) == 3) = false := by simp; omega
  go_wp2
  refine bodyPost_ret (v := .agg #[.string s, .int .i64 z, .bool false]) (by simp [results, Tryz.results87, go_sem, d0, d1, d2]) rfl ⟨⟨s, z, false⟩, rfl, ⟨hs, HZ.out.1, HZ.out.2⟩, ?_⟩
  have hbE : Below w.heap.size w4 (((w4.setCell ⟨w.heap.size, 0, none⟩ (.string s)).setCell ⟨w.heap.size, 1, none⟩ (.int .i64 z)).setCell ⟨w.heap.size, 2, none⟩ (.bool false)) := (((Below.refl w.heap.size w4).setCell (Nat.le_refl _) _).setCell (Nat.le_refl _) _).setCell (Nat.le_refl _) _
  exact ⟨belowKeeps hgr4 hbE (Nat.le_refl _), q4, by omega, by omega, hq4.belowR hbE hgl⟩

end Go.Proofs.YtbeklnhngjmpiaaGreat
