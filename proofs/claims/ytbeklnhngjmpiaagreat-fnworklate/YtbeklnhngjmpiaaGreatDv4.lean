/- The model's l2Bent: a history that may be bent. -/
import Derived.Test.YtbeklnhngjmpiaaGreatDv3
namespace Go.Proofs.YtbeklnhngjmpiaaGreat
open Go.RowKit
set_option linter.unusedVariables false
set_option maxRecDepth 100000

theorem FitVs.set {l : List V} (h : FitVs l) (k : Nat) {r : V} (hr : FitV r) : FitVs (l.set k r) := by
 intro x hx
 rcases List.mem_or_eq_of_mem_set hx with hx | rfl
 ·
  exact h x hx
 ·
  exact hr
def bn0 : List Int := [-1, 41, 40, 3]
def bn1 (z : Int) : List Int := [-1, 41, z - 1, 40]
def bn2 (z : Int) : List Int := [0, -1, z + 1, 1]
def bn3 (z f : Int) : List Int := [0, -1, z + 1, f]
def bn5 : List Int := [1000, 5]
def bs3 : List ByteArray := [⟨#[]⟩, ⟨#[122, 122]⟩, ⟨#[97]⟩]
theorem bs3_small : ∀ s ∈ bs3, s.size ≤ 3 := by
 intro s hs
 simp only [bs3, List.mem_cons, List.not_mem_nil, or_false] at hs
 rcases hs with rfl | rfl | rfl <;> decide
theorem bn0_z {k : Nat} : ∀ z ∈ bn0, -((k + 1 : Nat) : Int) ≤ z ∧ z ≤ 40 + ((k + 1 : Nat) : Int) := by
 intro z hz
 simp only [bn0, List.mem_cons, List.not_mem_nil, or_false] at hz
 omega
theorem bn1_z {k : Nat} {y : Int} (h1 : -(k : Int) ≤ y) (h2 : y ≤ 40 + k) : ∀ z ∈ bn1 y, -((k + 1 : Nat) : Int) ≤ z ∧ z ≤ 40 + ((k + 1 : Nat) : Int) := by
 intro z hz
 simp only [bn1, List.mem_cons, List.not_mem_nil, or_false] at hz
 omega
theorem bn2_z {y : Int} (h1 : -100 ≤ y) (h2 : y ≤ 100) : ∀ z ∈ bn2 y, FitI z := by
 intro z hz
 simp only [bn2, List.mem_cons, List.not_mem_nil, or_false] at hz
 unfold FitI; omega
theorem bn3_z {y f : Int} (h1 : -100 ≤ y) (h2 : y ≤ 100) (hf : FitI f) : ∀ z ∈ bn3 y f, FitI z := by
 intro z hz
 simp only [bn3, List.mem_cons, List.not_mem_nil, or_false] at hz
 unfold FitI at *; omega
theorem bn5_z : ∀ z ∈ bn5, FitI z := by
 intro z hz
 simp only [bn5, List.mem_cons, List.not_mem_nil, or_false] at hz
 unfold FitI; omega

set_option maxHeartbeats 8000000 in
theorem bentV_d (g : Nat) (A : Option Addr) (n c p : Nat) (z : Int) (A' : Option Addr) (c' : Nat) (l : List V) (k : Nat) (w : World) (h : Rdr w g A n c p) (hp : p ≤ 985000) (hfit : FitVs l) (hz1 : -(k : Int) ≤ z) (hz2 : z ≤ 40 + k) (hk10 : k ≤ 10) (hl : l.length ≤ 1000) (hr : RdG w w.heap.size A' l) :
  Calls Tryz.prog 94 #[.pointer (some ⟨g, 0, none⟩), .agg #[.int .i64 z, .slice A' l.length c']] w (RetDV g A n c p 5 (k + 1) (l.length + 1) w) := by
 have hgl := h.lt
 have hb0 : Below w.heap.size w ((w.alloc (.cells #[.int .i64 z, .slice A' l.length c'] 34)).alloc (.cells #[.int .i64 0, .slice none 0 0] 34)) := below_alloc (below_alloc (Below.refl _ _) _) _
 have hR0 := blkA (w.alloc (.cells #[.int .i64 z, .slice A' l.length c'] 34)) #[.int .i64 0, .slice none 0 0] 34
 have hB0 := (blkA w #[.int .i64 z, .slice A' l.length c'] 34).alloc (.cells #[.int .i64 0, .slice none 0 0] 34)
 have hsz : ((w.alloc (.cells #[.int .i64 z, .slice A' l.length c'] 34)).alloc (.cells #[.int .i64 0, .slice none 0 0] 34)).heap.size = w.heap.size + 2 := by simp
 simp only [World.size_alloc] at hR0
 obtain ⟨wn, HW⟩ : ∃ wn, Hid ((w.alloc (.cells #[.int .i64 z, .slice A' l.length c'] 34)).alloc (.cells #[.int .i64 0, .slice none 0 0] 34) = wn) := ⟨_, Lib.hid rfl⟩
 rw [HW.out] at hb0 hB0 hR0 hsz
 have q0 : wn.cell? ⟨w.heap.size, 0, none⟩ = some (.int .i64 z) := by rw [hB0.cell]; rfl
 have q1 : wn.cell? ⟨w.heap.size, 1, none⟩ = some (.slice A' l.length c') := by rw [hB0.cell]; rfl
 have hgS : ∀ {W : World} {u v : Value}, w.grownBy W (some g) → w.grownBy ((W.setCell ⟨w.heap.size + 1, 0, none⟩ u).setCell ⟨w.heap.size + 1, 1, none⟩ v) (some g) := fun hg => belowKeeps hg (((Below.refl w.heap.size _).setCell (by show _ ≤ w.heap.size + 1; omega) _).setCell (by show _ ≤ w.heap.size + 1; omega) _) (Nat.le_refl _)
 have hqS : ∀ {W : World} {u v : Value} {q : Nat}, Rdr W g A n c q → Rdr ((W.setCell ⟨w.heap.size + 1, 0, none⟩ u).setCell ⟨w.heap.size + 1, 1, none⟩ v) g A n c q := fun hq => hq.belowR (((Below.refl w.heap.size _).setCell (by show _ ≤ w.heap.size + 1; omega) _).setCell (by show _ ≤ w.heap.size + 1; omega) _) hgl
 go_enter Tryz.func94, Tryz.ntmps94
 go_wp2_with fail
 rw [HW.out]
 refine (l2Copy_c z A' c' l wn (by omega) (hr.next hb0)).mono ?_
 rintro e w1 ⟨v1, rfl, hO1, hb1⟩
 have hw1 := below_next hb0 hb1
 have hs1 := hb1.size
 obtain ⟨b1, c1, rfl, hx1, hx2, hx3⟩ := hO1.read
 clear hx1 hx2 hx3
 have hb2 : Below w1.heap.size w1 (w1.alloc (.cells #[.int .i64 z, .slice b1 l.length c1] 34)) := below_alloc (Below.refl _ _) _
 have hX2 := blkA w1 #[.int .i64 z, .slice b1 l.length c1] 34
 have hR2 := (hR0.next hb1).next hb2
 have hO2 := hO1.next hb2
 have hq2 := (h.next hw1).next hb2
 have hgr2 : w.grownBy (w1.alloc (.cells #[.int .i64 z, .slice b1 l.length c1] 34)) (some g) := grown_call (grown_call (World.grownBy.refl w _) hw1) hb2
 obtain ⟨s, HS, hs⟩ : ∃ s, Hid (w1.heap.size = s) ∧ w.heap.size + 2 ≤ s := ⟨_, Lib.hid rfl, by omega⟩
 rw [HS.out] at hX2
 have HAR : Hid (w.heap.size + 2 ≤ s ∧ wn.heap.size = w.heap.size + 2) := ⟨hs, hsz⟩
 have x1 : (w1.alloc (.cells #[.int .i64 z, .slice b1 l.length c1] 34)).cell? ⟨s, 1, none⟩ = some (.slice b1 l.length c1) := by rw [hX2.cell]; rfl
 clear q0 q1 hB0
 go_wp2_with fail
 refine (pick_d g A n c p 8 _ hq2 (by omega) (by omega) (by omega)).mono ?_
 rintro e w3 ⟨k3, rfl, hk3, hd3⟩
 rw [HS.out]
 obtain ⟨q3, h31, h32, hq3⟩ := hd3.rdr
 have hX3 := hX2.drawn (by have := HAR.out; omega) hd3.grown
 have hR3 := hR2.drawn (by have := HAR.out; omega) hd3.grown
 have hO3 := hO2.drawn (by have := HAR.out; omega) hd3.grown
 have hgr3 := hgr2.trans hd3.grown
 clear hX2 hR2 hO2 hgr2 hq2 x1 hd3
 by_cases hk30 : 0 < k3
 ·
  have hb3 : decide ((0 : Int) < (k3 : Int)) = true := decide_eq_true (by omega)
  have hb3' : (0 : Int) < (k3 : Int) := by omega
  have y0 : w3.cell? ⟨s, 0, none⟩ = some (.int .i64 z) := by rw [hX3.cell]; rfl
  have y1 : w3.cell? ⟨s, 1, none⟩ = some (.slice b1 l.length c1) := by rw [hX3.cell]; rfl
  have d0 : w3.cell? ⟨w.heap.size + 1, 0, none⟩ = some (.int .i64 0) := by rw [hR3.cell]; rfl
  have d1 : w3.cell? ⟨w.heap.size + 1, 1, none⟩ = some (.slice none 0 0) := by rw [hR3.cell]; rfl
  have f0 := hR3.free 0
  have f1 := hR3.free 1
  go_wp2
  refine bodyPost_ret (v := .agg #[.int .i64 z, .slice b1 l.length c1]) (by simp [results, Tryz.results94, go_sem, d0, d1]) rfl ⟨z, .slice b1 l.length c1, l, rfl, ?_, hfit, ⟨by omega, by omega⟩, by omega, ?_⟩
  ·
   have hne : ∀ g, (.slice b1 l.length c1 : Value).ownBlock = some g → g ≠ w.heap.size + 1 := fun g hg => by have := (hO3.block_lt hg).1; have := HAR.out; omega
   exact ((hO3.setCell (a := ⟨w.heap.size + 1, 0, none⟩) hne _).setCell (a := ⟨w.heap.size + 1, 1, none⟩) hne _).low (by have := HAR.out; omega)
  ·
   exact ⟨hgS hgr3, q3, by omega, by omega, hqS hq3⟩
 have hb3 : decide ((0 : Int) < (k3 : Int)) = false := decide_eq_false (by omega)
 by_cases hl0 : l.length = 0
 ·
  have hb4 : ((l.length : Int) == 0) = true := by simp [hl0]
  clear hl0
  have hbA : Below w3.heap.size w3 (w3.alloc (.cells #[.int .i64 (-1), .int .i64 41, .int .i64 40, .int .i64 3] 3)) := below_alloc (Below.refl _ _) _
  have hX4 := hX3.next hbA
  have hR4 := hR3.next hbA
  have hO4 := hO3.next hbA
  have hgr4 := grown_call hgr3 hbA
  have hw3 := hgr3.size
  go_wp2_with fail
  refine (num_d g A n c q3 w3.heap.size bn0 _ (hq3.next hbA) (by omega) (by omega) (blkA w3 _ _) 4 rfl (by omega) (by omega)).mono ?_
  rintro e w6 ⟨nv, rfl, hnv, hd6⟩
  obtain ⟨q6, h61, h62, hq6⟩ := hd6.rdr
  have hX6 := hX4.drawn (by have := HAR.out; omega) hd6.grown
  have hR6 := hR4.drawn (by have := HAR.out; omega) hd6.grown
  have hO6 := hO4.drawn (by have := HAR.out; omega) hd6.grown
  have hgr6 := hgr4.trans hd6.grown
  have hzz := bn0_z (k := k) nv hnv
  have y0' : w6.cell? ⟨s, 0, none⟩ = some (.int .i64 z) := by rw [hX6.cell]; rfl
  have y1' : w6.cell? ⟨s, 1, none⟩ = some (.slice b1 l.length c1) := by rw [hX6.cell]; rfl
  have ff := hX6.free 0
  have hX7 : Blk (w6.setCell ⟨s, 0, none⟩ (.int .i64 nv)) s 34 #[.int .i64 nv, .slice b1 l.length c1] := (hX6.set_ 0 _).cast rfl
  have hR7 := hR6.setOther (a := ⟨s, 0, none⟩) (show w.heap.size + 1 ≠ s from by omega) (.int .i64 nv)
  have hO7 := hO6.setCell (a := ⟨s, 0, none⟩) (fun g hg e => by obtain ⟨cs, hcs⟩ := hO6.blk_of hg; exact hX6.ne hcs typesVV e.symm) (.int .i64 nv)
  have hbS : Below (w.heap.size + 2) w6 (w6.setCell ⟨s, 0, none⟩ (.int .i64 nv)) := (Below.refl _ _).setCell (show w.heap.size + 2 ≤ s from hs) _
  have hgr7 := belowKeeps hgr6 hbS (by omega)
  have hq7 := hq6.belowR hbS (by omega)
  have y0 : (w6.setCell ⟨s, 0, none⟩ (.int .i64 nv)).cell? ⟨s, 0, none⟩ = some (.int .i64 nv) := by rw [hX7.cell]; rfl
  have y1 : (w6.setCell ⟨s, 0, none⟩ (.int .i64 nv)).cell? ⟨s, 1, none⟩ = some (.slice b1 l.length c1) := by rw [hX7.cell]; rfl
  have d0 : (w6.setCell ⟨s, 0, none⟩ (.int .i64 nv)).cell? ⟨w.heap.size + 1, 0, none⟩ = some (.int .i64 0) := by rw [hR7.cell]; rfl
  have d1 : (w6.setCell ⟨s, 0, none⟩ (.int .i64 nv)).cell? ⟨w.heap.size + 1, 1, none⟩ = some (.slice none 0 0) := by rw [hR7.cell]; rfl
  have f0 := hR7.free 0
  have f1 := hR7.free 1
  go_wp2
  refine bodyPost_ret (v := .agg #[.int .i64 nv, .slice b1 l.length c1]) (by simp [results, Tryz.results94, go_sem, d0, d1]) rfl ⟨nv, .slice b1 l.length c1, l, rfl, ?_, hfit, hzz, by omega, ?_⟩
  ·
   have hne : ∀ g, (.slice b1 l.length c1 : Value).ownBlock = some g → g ≠ w.heap.size + 1 := fun g hg => by have := (hO7.block_lt hg).1; have := HAR.out; omega
   exact ((hO7.setCell (a := ⟨w.heap.size + 1, 0, none⟩) hne _).setCell (a := ⟨w.heap.size + 1, 1, none⟩) hne _).low (by have := HAR.out; omega)
  ·
   exact ⟨hgS hgr7, q6, by omega, by omega, hqS hq7⟩
 have hb4 : ((l.length : Int) == 0) = false := beq_eq_false_iff_ne.2 (by omega)
 go_wp2_with fail
 refine (pick_d g A n c q3 l.length w3 hq3 (by omega) (by omega) (by omega)).mono ?_
 rintro e w5 ⟨kk, rfl, hkk, hd5⟩
 obtain ⟨q5, h51, h52, hq5⟩ := hd5.rdr
 have hX5 := hX3.drawn (by have := HAR.out; omega) hd5.grown
 have hR5 := hR3.drawn (by have := HAR.out; omega) hd5.grown
 have hO5 := hO3.drawn (by have := HAR.out; omega) hd5.grown
 have hgr5 := hgr3.trans hd5.grown
 clear hX3 hR3 hO3 hgr3 hq3 hd5
 go_wp2_with fail
 refine (pick_d g A n c q5 6 w5 hq5 (by omega) (by omega) (by omega)).mono ?_
 rintro e w4 ⟨k6, rfl, hk6, hd4⟩
 obtain ⟨q4, h41, h42, hq4⟩ := hd4.rdr
 have hX4 := hX5.drawn (by have := HAR.out; omega) hd4.grown
 have hR4 := hR5.drawn (by have := HAR.out; omega) hd4.grown
 have hO4 := hO5.drawn (by have := HAR.out; omega) hd4.grown
 have hgr4 := hgr5.trans hd4.grown
 clear hX5 hR5 hO5 hgr5 hq5 hd4
 have hkl : l[kk]? = some l[kk] := List.getElem?_eq_getElem hkk
 have hkI := lenI _ _ hkk
 have hfk := hfit _ (List.getElem_mem hkk)
 obtain ⟨gl, o, rfl, HO0, hgb, hglt⟩ := hO4.addr (by omega)
 have HSG : Hid (s ≠ gl) := fun e => by obtain ⟨cs, hcs⟩ := hO4.blk_of (g := gl) rfl; exact hX4.ne hcs typesVV e
 have hgb' : w.heap.size + 2 ≤ gl := by omega
 have hwz : IntKind.i64.wrap (z + 1) = z + 1 := IntWalk.i64_in _ (by omega)
 have hwy : IntKind.i64.wrap (z - 1) = z - 1 := IntWalk.i64_in _ (by omega)
 obtain ⟨cl, HCL⟩ : ∃ cl, Hid (c1 = cl) := ⟨_, Lib.hid rfl⟩
 rw [HCL.out] at hX4 hO4
 rw [HCL.out]
 have x0 : w4.cell? ⟨s, 0, none⟩ = some (.int .i64 z) := by rw [hX4.cell]; rfl
 have x1 : w4.cell? ⟨s, 1, none⟩ = some (.slice (some ⟨gl, o, none⟩) l.length cl) := by rw [hX4.cell]; rfl
 have hX4d : Blk w4.drew s 34 #[.int .i64 z, .slice (some ⟨gl, o, none⟩) l.length cl] := hX4
 obtain ⟨hc0, hc1, hc2, hc3⟩ := hO4.rd'.2.2.2.cellsV hkl
 have hcases : k6 = 0 ∨ k6 = 1 ∨ k6 = 2 ∨ k6 = 3 ∨ k6 = 4 ∨ k6 = 5 := by omega
 clear hk6
 rcases hcases with rfl | rfl | rfl | rfl | rfl | rfl
 ·
  have hbA : Below w4.heap.size w4 (w4.alloc (.cells #[.int .i64 (-1), .int .i64 41, .int .i64 (z - 1), .int .i64 40] 3)) := below_alloc (Below.refl _ _) _
  have hX5 := hX4.next hbA
  have hR5 := hR4.next hbA
  have hO5 := hO4.next hbA
  have hgr5 := grown_call hgr4 hbA
  have hw4 := hgr4.size
  go_wp2_with fail
  refine (num_d g A n c q4 w4.heap.size (bn1 z) _ (hq4.next hbA) (by omega) (by omega) (blkA w4 _ _) 4 rfl (by omega) (by omega)).mono ?_
  rintro e w6 ⟨nv, rfl, hnv, hd6⟩
  obtain ⟨q6, h61, h62, hq6⟩ := hd6.rdr
  have hX6 := hX5.drawn (by have := HAR.out; omega) hd6.grown
  have hR6 := hR5.drawn (by have := HAR.out; omega) hd6.grown
  have hO6 := hO5.drawn (by have := HAR.out; omega) hd6.grown
  have hgr6 := hgr5.trans hd6.grown
  have hzz := bn1_z (k := k) hz1 hz2 nv hnv
  have y0' : w6.cell? ⟨s, 0, none⟩ = some (.int .i64 z) := by rw [hX6.cell]; rfl
  have y1' : w6.cell? ⟨s, 1, none⟩ = some (.slice (some ⟨gl, o, none⟩) l.length cl) := by rw [hX6.cell]; rfl
  have ff := hX6.free 0
  have hX7 : Blk (w6.setCell ⟨s, 0, none⟩ (.int .i64 nv)) s 34 #[.int .i64 nv, .slice (some ⟨gl, o, none⟩) l.length cl] := (hX6.set_ 0 _).cast rfl
  have hR7 := hR6.setOther (a := ⟨s, 0, none⟩) (show w.heap.size + 1 ≠ s from by omega) (.int .i64 nv)
  have hO7 := hO6.setCell (a := ⟨s, 0, none⟩) (fun g hg e => by obtain ⟨cs, hcs⟩ := hO6.blk_of hg; exact hX6.ne hcs typesVV e.symm) (.int .i64 nv)
  have hbS : Below (w.heap.size + 2) w6 (w6.setCell ⟨s, 0, none⟩ (.int .i64 nv)) := (Below.refl _ _).setCell (show w.heap.size + 2 ≤ s from hs) _
  have hgr7 := belowKeeps hgr6 hbS (by omega)
  have hq7 := hq6.belowR hbS (by omega)
  have y0 : (w6.setCell ⟨s, 0, none⟩ (.int .i64 nv)).cell? ⟨s, 0, none⟩ = some (.int .i64 nv) := by rw [hX7.cell]; rfl
  have y1 : (w6.setCell ⟨s, 0, none⟩ (.int .i64 nv)).cell? ⟨s, 1, none⟩ = some (.slice (some ⟨gl, o, none⟩) l.length cl) := by rw [hX7.cell]; rfl
  have d0 : (w6.setCell ⟨s, 0, none⟩ (.int .i64 nv)).cell? ⟨w.heap.size + 1, 0, none⟩ = some (.int .i64 0) := by rw [hR7.cell]; rfl
  have d1 : (w6.setCell ⟨s, 0, none⟩ (.int .i64 nv)).cell? ⟨w.heap.size + 1, 1, none⟩ = some (.slice none 0 0) := by rw [hR7.cell]; rfl
  have f0 := hR7.free 0
  have f1 := hR7.free 1
  go_wp2
  refine bodyPost_ret (v := .agg #[.int .i64 nv, .slice (some ⟨gl, o, none⟩) l.length cl]) (by simp [results, Tryz.results94, go_sem, d0, d1]) rfl ⟨nv, .slice (some ⟨gl, o, none⟩) l.length cl, l, rfl, ?_, hfit, hzz, by omega, ?_⟩
  ·
   have hne : ∀ g, (.slice (some ⟨gl, o, none⟩) l.length cl : Value).ownBlock = some g → g ≠ w.heap.size + 1 := fun g hg => by have := (hO7.block_lt hg).1; have := HAR.out; omega
   exact ((hO7.setCell (a := ⟨w.heap.size + 1, 0, none⟩) hne _).setCell (a := ⟨w.heap.size + 1, 1, none⟩) hne _).low (by have := HAR.out; omega)
  ·
   exact ⟨hgS hgr7, q6, by omega, by omega, hqS hq7⟩
 ·
  have hbA : Below w4.heap.size w4 (w4.alloc (.cells #[.int .i64 0, .int .i64 (-1), .int .i64 (z + 1), .int .i64 1] 3)).drew := (below_alloc (Below.refl _ _) _).drew
  have hX5 := hX4.next hbA
  have hR5 := hR4.next hbA
  have hO5 := hO4.next hbA
  have hgr5 := grown_call hgr4 hbA
  have hq5 := hq4.next hbA
  have hN5 : Blk (w4.alloc (.cells #[.int .i64 0, .int .i64 (-1), .int .i64 (z + 1), .int .i64 1] 3)).drew w4.heap.size 3 #[.int .i64 0, .int .i64 (-1), .int .i64 (z + 1), .int .i64 1] := blkA w4 _ _
  have hw4 := hgr4.size
  go_wp2
  refine wp_region_held_drew (S := (fun W => W.cell? ⟨s, 0, none⟩ = some (.int .i64 z) ∧ W.cell? ⟨s, 1, none⟩ = some (.slice (some ⟨gl, o, none⟩) l.length cl))) (by kernel_rfl) ?_ (fun hHeld => ?_)
  focus ((try dsimp only); (exact ⟨by rw [hX4d.cell]; rfl, by rw [hX4d.cell]; rfl⟩))
  refine tk 0 ?_
  refine tk 1 ?_
  refine tk 2 ?_
  refine tk 3 ?_
  refine tk 4 ?_
  refine tk 5 ?_
  refine tk 6 ?_
  refine rd1 7 (fun K hK => ?_)
  go_simp
  refine hK.out _ _ ?_ (fun hHeld => ?_)
  focus ((try dsimp only); (exact ⟨by rw [hX5.cell]; rfl, by rw [hX5.cell]; rfl⟩))
  clear hK K
  try simp only [Act.put, pa, pb, pc]
  (refine rd1 8 (fun K hK => ?_); go_simp; (go_at_call 133; refine (num_d g A n c q4 w4.heap.size (bn2 z) _ hq5 (by omega) (by omega) hN5 4 rfl (by omega) (by omega)).mono ?_; rintro e w6 ⟨nv, rfl, hnv, hd6⟩; obtain ⟨q6, h61, h62, hq6⟩ := hd6.rdr; have hX6 := hX5.drawn (by have := HAR.out; omega) hd6.grown; have hR6 := hR5.drawn (by have := HAR.out; omega) hd6.grown; have hO6 := hO5.drawn (by have := HAR.out; omega) hd6.grown; have hgr6 := hgr5.trans hd6.grown; have hOs := hO6.setAt HO0.out (i := kk) (r := l[kk]) (r' := ⟨l[kk].k, l[kk].n, nv, l[kk].t⟩) (j := 2) (u := .int .i64 nv) hkl (by decide) rfl; have hfz : w6.frozen? ⟨gl, o + kk * 4 + 2, none⟩ = false := (by obtain ⟨cs, hcs⟩ := hO6.blk_of (g := gl) rfl; exact hcs.free _); obtain ⟨u0, u1, u2, u3⟩ := hO6.rd'.2.2.2.cellsV hkl); go_wp2_with fail; refine hK.out _ _ ?_ (fun hHeld => ?_); (focus ((try dsimp only); (exact ⟨by rw [hX6.cell]; rfl, by rw [hX6.cell]; rfl⟩))); clear hK K; (try simp only [Act.put, pa, pb, pc]))
  have hX7 := hX6.setOther (a := ⟨gl, o + kk * 4 + 2, none⟩) (show s ≠ gl from HSG.out) (.int .i64 nv)
  have hR7 := hR6.setOther (a := ⟨gl, o + kk * 4 + 2, none⟩) (show w.heap.size + 1 ≠ gl from by have := HAR.out; omega) (.int .i64 nv)
  have hbS : Below (w.heap.size + 2) w6 (w6.setCell ⟨gl, o + kk * 4 + 2, none⟩ (.int .i64 nv)) := (Below.refl _ _).setCell (show w.heap.size + 2 ≤ gl from by have := HAR.out; omega) _
  have hgr7 := belowKeeps hgr6 hbS (by omega)
  have hq7 := hq6.belowR hbS (by omega)
  refine tk 9 ?_
  refine tk 10 ?_
  refine rd1 11 (fun K hK => ?_)
  go_simp
  refine hK.out _ _ ?_ (fun hHeld => ?_)
  focus ((try dsimp only); (exact ⟨by rw [hX7.cell]; rfl, by rw [hX7.cell]; rfl⟩))
  clear hK K
  try simp only [Act.put, pa, pb, pc]
  refine wpAnyH_done (by kernel_rfl) ?_ _
  have y0 : (w6.setCell ⟨gl, o + kk * 4 + 2, none⟩ (.int .i64 nv)).cell? ⟨s, 0, none⟩ = some (.int .i64 z) := by rw [hX7.cell]; rfl
  have y1 : (w6.setCell ⟨gl, o + kk * 4 + 2, none⟩ (.int .i64 nv)).cell? ⟨s, 1, none⟩ = some (.slice (some ⟨gl, o, none⟩) l.length cl) := by rw [hX7.cell]; rfl
  have d0 : (w6.setCell ⟨gl, o + kk * 4 + 2, none⟩ (.int .i64 nv)).cell? ⟨w.heap.size + 1, 0, none⟩ = some (.int .i64 0) := by rw [hR7.cell]; rfl
  have d1 : (w6.setCell ⟨gl, o + kk * 4 + 2, none⟩ (.int .i64 nv)).cell? ⟨w.heap.size + 1, 1, none⟩ = some (.slice none 0 0) := by rw [hR7.cell]; rfl
  have f0 := hR7.free 0
  have f1 := hR7.free 1
  go_wp2
  refine bodyPost_ret (v := .agg #[.int .i64 z, .slice (some ⟨gl, o, none⟩) l.length cl]) (by simp [results, Tryz.results94, go_sem, d0, d1]) rfl ⟨z, .slice (some ⟨gl, o, none⟩) l.length cl, (l.set kk ⟨l[kk].k, l[kk].n, nv, l[kk].t⟩), rfl, ?_, hfit.set kk ⟨hfk.1, hfk.2.1, hfk.2.2.1, (bn2_z (by omega) (by omega) nv hnv).1, (bn2_z (by omega) (by omega) nv hnv).2, hfk.2.2.2.2.2.1, hfk.2.2.2.2.2.2⟩, ⟨by omega, by omega⟩, by rw [List.length_set]; omega, ?_⟩
  ·
   have hne : ∀ g, (.slice (some ⟨gl, o, none⟩) l.length cl : Value).ownBlock = some g → g ≠ w.heap.size + 1 := fun g hg => by have := (hOs.block_lt hg).1; have := HAR.out; omega
   exact ((hOs.setCell (a := ⟨w.heap.size + 1, 0, none⟩) hne _).setCell (a := ⟨w.heap.size + 1, 1, none⟩) hne _).low (by have := HAR.out; omega)
  ·
   exact ⟨hgS hgr7, q6, by omega, by omega, hqS hq7⟩
 ·
  have hbA : Below w4.heap.size w4 (w4.alloc (.cells #[.int .i64 0, .int .i64 (-1), .int .i64 (z + 1), .int .i64 l[kk].f] 3)).drew := (below_alloc (Below.refl _ _) _).drew
  have hX5 := hX4.next hbA
  have hR5 := hR4.next hbA
  have hO5 := hO4.next hbA
  have hgr5 := grown_call hgr4 hbA
  have hq5 := hq4.next hbA
  have hN5 : Blk (w4.alloc (.cells #[.int .i64 0, .int .i64 (-1), .int .i64 (z + 1), .int .i64 l[kk].f] 3)).drew w4.heap.size 3 #[.int .i64 0, .int .i64 (-1), .int .i64 (z + 1), .int .i64 l[kk].f] := blkA w4 _ _
  have hw4 := hgr4.size
  have hcA := (hO5.rd'.2.2.2.cellsV hkl).2.2.1
  go_wp2
  refine wp_region_held_drew (S := (fun W => W.cell? ⟨s, 0, none⟩ = some (.int .i64 z) ∧ W.cell? ⟨s, 1, none⟩ = some (.slice (some ⟨gl, o, none⟩) l.length cl) ∧ W.cell? ⟨gl, o + kk * 4 + 2, none⟩ = some (.int .i64 l[kk].f))) (by kernel_rfl) ?_ (fun hHeld => ?_)
  focus ((try dsimp only); (exact ⟨by rw [hX4d.cell]; rfl, by rw [hX4d.cell]; rfl, hc2⟩))
  refine tk 0 ?_
  refine tk 1 ?_
  refine tk 2 ?_
  refine tk 3 ?_
  refine tk 4 ?_
  refine tk 5 ?_
  refine tk 6 ?_
  refine tk 7 ?_
  refine tk 8 ?_
  refine tk 9 ?_
  refine tk 10 ?_
  refine tk 11 ?_
  refine tk 12 ?_
  refine rd1 13 (fun K hK => ?_)
  go_simp
  refine hK.out _ _ ?_ (fun hHeld => ?_)
  focus ((try dsimp only); (exact ⟨by rw [hX5.cell]; rfl, by rw [hX5.cell]; rfl, hcA⟩))
  clear hK K
  try simp only [Act.put, pa, pb, pc]
  (refine rd1 14 (fun K hK => ?_); go_simp; (go_at_call 133; refine (num_d g A n c q4 w4.heap.size (bn3 z l[kk].f) _ hq5 (by omega) (by omega) hN5 4 rfl (by omega) (by omega)).mono ?_; rintro e w6 ⟨nv, rfl, hnv, hd6⟩; obtain ⟨q6, h61, h62, hq6⟩ := hd6.rdr; have hX6 := hX5.drawn (by have := HAR.out; omega) hd6.grown; have hR6 := hR5.drawn (by have := HAR.out; omega) hd6.grown; have hO6 := hO5.drawn (by have := HAR.out; omega) hd6.grown; have hgr6 := hgr5.trans hd6.grown; have hcB := (hO6.rd'.2.2.2.cellsV hkl).2.2.1; have hOs := hO6.setAt HO0.out (i := kk) (r := l[kk]) (r' := ⟨l[kk].k, l[kk].n, l[kk].f, nv⟩) (j := 3) (u := .int .i64 nv) hkl (by decide) rfl; have hfz : w6.frozen? ⟨gl, o + kk * 4 + 3, none⟩ = false := (by obtain ⟨cs, hcs⟩ := hO6.blk_of (g := gl) rfl; exact hcs.free _); obtain ⟨u0, u1, u2, u3⟩ := hO6.rd'.2.2.2.cellsV hkl); go_wp2_with fail; refine hK.out _ _ ?_ (fun hHeld => ?_); (focus ((try dsimp only); (exact ⟨by rw [hX6.cell]; rfl, by rw [hX6.cell]; rfl, hcB⟩))); clear hK K; (try simp only [Act.put, pa, pb, pc]))
  have hX7 := hX6.setOther (a := ⟨gl, o + kk * 4 + 3, none⟩) (show s ≠ gl from HSG.out) (.int .i64 nv)
  have hR7 := hR6.setOther (a := ⟨gl, o + kk * 4 + 3, none⟩) (show w.heap.size + 1 ≠ gl from by have := HAR.out; omega) (.int .i64 nv)
  have hbS : Below (w.heap.size + 2) w6 (w6.setCell ⟨gl, o + kk * 4 + 3, none⟩ (.int .i64 nv)) := (Below.refl _ _).setCell (show w.heap.size + 2 ≤ gl from by have := HAR.out; omega) _
  have hgr7 := belowKeeps hgr6 hbS (by omega)
  have hq7 := hq6.belowR hbS (by omega)
  have hcC := (hOs.rd'.2.2.2.cellsV (i := kk) (r := ⟨l[kk].k, l[kk].n, l[kk].f, nv⟩) (by rw [List.getElem?_set_self (List.getElem?_eq_some_iff.1 hkl).1])).2.2.1
  refine tk 15 ?_
  refine tk 16 ?_
  refine rd1 17 (fun K hK => ?_)
  go_simp
  refine hK.out _ _ ?_ (fun hHeld => ?_)
  focus ((try dsimp only); (exact ⟨by rw [hX7.cell]; rfl, by rw [hX7.cell]; rfl, hcC⟩))
  clear hK K
  try simp only [Act.put, pa, pb, pc]
  refine wpAnyH_done (by kernel_rfl) ?_ _
  have y0 : (w6.setCell ⟨gl, o + kk * 4 + 3, none⟩ (.int .i64 nv)).cell? ⟨s, 0, none⟩ = some (.int .i64 z) := by rw [hX7.cell]; rfl
  have y1 : (w6.setCell ⟨gl, o + kk * 4 + 3, none⟩ (.int .i64 nv)).cell? ⟨s, 1, none⟩ = some (.slice (some ⟨gl, o, none⟩) l.length cl) := by rw [hX7.cell]; rfl
  have d0 : (w6.setCell ⟨gl, o + kk * 4 + 3, none⟩ (.int .i64 nv)).cell? ⟨w.heap.size + 1, 0, none⟩ = some (.int .i64 0) := by rw [hR7.cell]; rfl
  have d1 : (w6.setCell ⟨gl, o + kk * 4 + 3, none⟩ (.int .i64 nv)).cell? ⟨w.heap.size + 1, 1, none⟩ = some (.slice none 0 0) := by rw [hR7.cell]; rfl
  have f0 := hR7.free 0
  have f1 := hR7.free 1
  go_wp2
  refine bodyPost_ret (v := .agg #[.int .i64 z, .slice (some ⟨gl, o, none⟩) l.length cl]) (by simp [results, Tryz.results94, go_sem, d0, d1]) rfl ⟨z, .slice (some ⟨gl, o, none⟩) l.length cl, (l.set kk ⟨l[kk].k, l[kk].n, l[kk].f, nv⟩), rfl, ?_, hfit.set kk ⟨hfk.1, hfk.2.1, hfk.2.2.1, hfk.2.2.2.1, hfk.2.2.2.2.1, (bn3_z (by omega) (by omega) ⟨hfk.2.2.2.1, hfk.2.2.2.2.1⟩ nv hnv).1, (bn3_z (by omega) (by omega) ⟨hfk.2.2.2.1, hfk.2.2.2.2.1⟩ nv hnv).2⟩, ⟨by omega, by omega⟩, by rw [List.length_set]; omega, ?_⟩
  ·
   have hne : ∀ g, (.slice (some ⟨gl, o, none⟩) l.length cl : Value).ownBlock = some g → g ≠ w.heap.size + 1 := fun g hg => by have := (hOs.block_lt hg).1; have := HAR.out; omega
   exact ((hOs.setCell (a := ⟨w.heap.size + 1, 0, none⟩) hne _).setCell (a := ⟨w.heap.size + 1, 1, none⟩) hne _).low (by have := HAR.out; omega)
  ·
   exact ⟨hgS hgr7, q6, by omega, by omega, hqS hq7⟩
 ·
  have hbA : Below w4.heap.size w4 (w4.alloc (.cells #[.string ⟨#[]⟩, .string ⟨#[122, 122]⟩, .string ⟨#[97]⟩] 9)).drew := (below_alloc (Below.refl _ _) _).drew
  have hX5 := hX4.next hbA
  have hR5 := hR4.next hbA
  have hO5 := hO4.next hbA
  have hgr5 := grown_call hgr4 hbA
  have hq5 := hq4.next hbA
  have hN5 : Blk (w4.alloc (.cells #[.string ⟨#[]⟩, .string ⟨#[122, 122]⟩, .string ⟨#[97]⟩] 9)).drew w4.heap.size 9 #[.string ⟨#[]⟩, .string ⟨#[122, 122]⟩, .string ⟨#[97]⟩] := blkA w4 _ _
  have hw4 := hgr4.size
  go_wp2
  refine wp_region_held_drew (S := (fun W => W.cell? ⟨s, 0, none⟩ = some (.int .i64 z) ∧ W.cell? ⟨s, 1, none⟩ = some (.slice (some ⟨gl, o, none⟩) l.length cl))) (by kernel_rfl) ?_ (fun hHeld => ?_)
  focus ((try dsimp only); (exact ⟨by rw [hX4d.cell]; rfl, by rw [hX4d.cell]; rfl⟩))
  refine tk 0 ?_
  refine tk 1 ?_
  refine tk 2 ?_
  refine tk 3 ?_
  refine rd1 4 (fun K hK => ?_)
  go_simp
  refine hK.out _ _ ?_ (fun hHeld => ?_)
  focus ((try dsimp only); (exact ⟨by rw [hX5.cell]; rfl, by rw [hX5.cell]; rfl⟩))
  clear hK K
  try simp only [Act.put, pa, pb, pc]
  (refine rd1 5 (fun K hK => ?_); go_simp; (go_at_call 134; refine (of_d g A n c q4 w4.heap.size bs3 _ hq5 (by omega) (by omega) hN5 3 rfl (by omega) (by omega)).mono ?_; rintro e w6 ⟨nv, rfl, hnv, hd6⟩; obtain ⟨q6, h61, h62, hq6⟩ := hd6.rdr; have hX6 := hX5.drawn (by have := HAR.out; omega) hd6.grown; have hR6 := hR5.drawn (by have := HAR.out; omega) hd6.grown; have hO6 := hO5.drawn (by have := HAR.out; omega) hd6.grown; have hgr6 := hgr5.trans hd6.grown; have hOs := hO6.setAt HO0.out (i := kk) (r := l[kk]) (r' := ⟨nv, l[kk].n, l[kk].f, l[kk].t⟩) (j := 0) (u := .string nv) hkl (by decide) rfl; have hfz : w6.frozen? ⟨gl, o + kk * 4, none⟩ = false := (by obtain ⟨cs, hcs⟩ := hO6.blk_of (g := gl) rfl; exact hcs.free _); obtain ⟨u0, u1, u2, u3⟩ := hO6.rd'.2.2.2.cellsV hkl); go_wp2_with fail; refine hK.out _ _ ?_ (fun hHeld => ?_); (focus ((try dsimp only); (exact ⟨by rw [hX6.cell]; rfl, by rw [hX6.cell]; rfl⟩))); clear hK K; (try simp only [Act.put, pa, pb, pc]))
  have hX7 := hX6.setOther (a := ⟨gl, o + kk * 4, none⟩) (show s ≠ gl from HSG.out) (.string nv)
  have hR7 := hR6.setOther (a := ⟨gl, o + kk * 4, none⟩) (show w.heap.size + 1 ≠ gl from by have := HAR.out; omega) (.string nv)
  have hbS : Below (w.heap.size + 2) w6 (w6.setCell ⟨gl, o + kk * 4, none⟩ (.string nv)) := (Below.refl _ _).setCell (show w.heap.size + 2 ≤ gl from by have := HAR.out; omega) _
  have hgr7 := belowKeeps hgr6 hbS (by omega)
  have hq7 := hq6.belowR hbS (by omega)
  rw [Nat.add_zero] at hOs
  refine tk 6 ?_
  refine tk 7 ?_
  refine rd1 8 (fun K hK => ?_)
  go_simp
  refine hK.out _ _ ?_ (fun hHeld => ?_)
  focus ((try dsimp only); (exact ⟨by rw [hX7.cell]; rfl, by rw [hX7.cell]; rfl⟩))
  clear hK K
  try simp only [Act.put, pa, pb, pc]
  refine wpAnyH_done (by kernel_rfl) ?_ _
  have y0 : (w6.setCell ⟨gl, o + kk * 4, none⟩ (.string nv)).cell? ⟨s, 0, none⟩ = some (.int .i64 z) := by rw [hX7.cell]; rfl
  have y1 : (w6.setCell ⟨gl, o + kk * 4, none⟩ (.string nv)).cell? ⟨s, 1, none⟩ = some (.slice (some ⟨gl, o, none⟩) l.length cl) := by rw [hX7.cell]; rfl
  have d0 : (w6.setCell ⟨gl, o + kk * 4, none⟩ (.string nv)).cell? ⟨w.heap.size + 1, 0, none⟩ = some (.int .i64 0) := by rw [hR7.cell]; rfl
  have d1 : (w6.setCell ⟨gl, o + kk * 4, none⟩ (.string nv)).cell? ⟨w.heap.size + 1, 1, none⟩ = some (.slice none 0 0) := by rw [hR7.cell]; rfl
  have f0 := hR7.free 0
  have f1 := hR7.free 1
  go_wp2
  refine bodyPost_ret (v := .agg #[.int .i64 z, .slice (some ⟨gl, o, none⟩) l.length cl]) (by simp [results, Tryz.results94, go_sem, d0, d1]) rfl ⟨z, .slice (some ⟨gl, o, none⟩) l.length cl, (l.set kk ⟨nv, l[kk].n, l[kk].f, l[kk].t⟩), rfl, ?_, hfit.set kk ⟨Nat.le_trans (bs3_small nv hnv) (by unfold maxLen; omega), hfk.2⟩, ⟨by omega, by omega⟩, by rw [List.length_set]; omega, ?_⟩
  ·
   have hne : ∀ g, (.slice (some ⟨gl, o, none⟩) l.length cl : Value).ownBlock = some g → g ≠ w.heap.size + 1 := fun g hg => by have := (hOs.block_lt hg).1; have := HAR.out; omega
   exact ((hOs.setCell (a := ⟨w.heap.size + 1, 0, none⟩) hne _).setCell (a := ⟨w.heap.size + 1, 1, none⟩) hne _).low (by have := HAR.out; omega)
  ·
   exact ⟨hgS hgr7, q6, by omega, by omega, hqS hq7⟩
 ·
  have hbA : Below w4.heap.size w4 (w4.alloc (.cells #[.string l[kk].k, .int .i64 l[kk].n, .int .i64 l[kk].f, .int .i64 l[kk].t] 118)).drew := (below_alloc (Below.refl _ _) _).drew
  have hX5 := hX4.next hbA
  have hR5 := hR4.next hbA
  have hO5 := hO4.next hbA
  have hgr5 := grown_call hgr4 hbA
  have hq5 := hq4.next hbA
  have hw4 := hgr4.size
  have hba : w.heap.size + 2 ≤ ((w4.alloc (.cells #[.string l[kk].k, .int .i64 l[kk].n, .int .i64 l[kk].f, .int .i64 l[kk].t] 118)).drew).heap.size := by have := hbA.size; omega
  have HFA : Hid (FitVs (l ++ [l[kk]])) := fun r hr => by
   rcases List.mem_append.1 hr with hr | hr
   ·
    exact hfit r hr
   ·
    rw [List.mem_singleton] at hr; subst hr; exact hfk
  go_wp2
  refine wp_region_held_drew (S := (fun W => W.cell? ⟨s, 0, none⟩ = some (.int .i64 z))) (by kernel_rfl) ?_ (fun hHeld => ?_)
  focus ((try dsimp only); (exact x0))
  refine tk 0 ?_
  refine tk 2 ?_
  refine tk 4 ?_
  refine wpAnyH_ready (rs := [1, 3]) (by kernel_rfl) (by simp) (AllReadyH.cons (by (simp only [ga, gb, gc]; rfl)) (fun K hK => ?_) (AllReadyH.cons (by (simp only [ga, gb, gc]; rfl)) (fun K hK => ?_) AllReadyH.nil))
  ·
   go_simp
   refine hK.out _ _ ?_ (fun hHeld => ?_)
   focus ((try dsimp only); (exact x0))
   clear hK K
   try simp only [Act.put, pa, pb, pc]
   refine rd1 3 (fun K hK => ?_)
   go_simp
   refine hK.out _ _ ?_ (fun hHeld => ?_)
   focus ((try dsimp only); (exact x0))
   clear hK K
   try simp only [Act.put, pa, pb, pc]
   refine tk 5 ?_
   refine rd1 6 (fun K hK => ?_)
   go_simp
   refine hK.out _ _ ?_ (fun hHeld => ?_)
   focus ((try dsimp only); (exact x0))
   clear hK K
   try simp only [Act.put, pa, pb, pc]
   have hX5d := hX5
   refine rd1 7 (fun K hK => ?_)
   go_simp
   refine hK.out _ _ ?_ (fun hHeld => ?_)
   focus ((try dsimp only); (rw [hX5.cell]; rfl))
   clear hK K
   try simp only [Act.put, pa, pb, pc]
   refine rd1 8 (fun K hK => ?_)
   refine step_appG (α := V) ((w4.alloc (.cells #[.string l[kk].k, .int .i64 l[kk].n, .int .i64 l[kk].f, .int .i64 l[kk].t] 118)).drew) rfl _ _ _ _ 118 rfl Tryz.underlying32 Tryz.underlying32 (w.heap.size + 2) (Value.slice (some ⟨gl, o, none⟩) l.length cl) l rfl (hO5.low (by omega)) (some ⟨w4.heap.size, 0, none⟩) 1 _ 1 [l[kk]] rfl rfl (rdOneV w4 l[kk] 118) (by rw [List.length_singleton]; omega) hba ?_
   intro v6 w6 hv6 hg6 hat6
   obtain ⟨b6, n6, c6, rfl⟩ := hv6.slice
   have hX6 := hX5.grown hg6 (fun e => HSG.out (Option.some.inj e))
   have hbT : Below (w.heap.size + 2) ((w4.alloc (.cells #[.string l[kk].k, .int .i64 l[kk].n, .int .i64 l[kk].f, .int .i64 l[kk].t] 118)).drew) w6 := (Below.refl _ _).grown hg6 hba (fun k hk => by have h : gl = k := Option.some.inj hk; omega)
   have hR6 := (hbT.block _ (by omega)).trans hR5
   have hgr6 := belowKeeps hgr5 hbT (by omega)
   have hq6 := hq5.belowR hbT (by omega)
   have y1' : w6.cell? ⟨s, 1, none⟩ = some (.slice (some ⟨gl, o, none⟩) l.length cl) := (by rw [hX6.cell]; rfl)
   have ff := hX6.free 1
   refine hK.out _ _ ?_ (fun hHeld => ?_)
   focus ((try dsimp only); (rw [hX6.cell]; rfl))
   clear hK K
   try simp only [Act.put, pa, pb, pc]
   refine tk 9 ?_
   have hX7 : Blk (w6.setCell ⟨s, 1, none⟩ (.slice b6 n6 c6)) s 34 #[.int .i64 z, .slice b6 n6 c6] := (hX6.set_ 1 _).cast rfl
   have hR7 : Blk (w6.setCell ⟨s, 1, none⟩ (.slice b6 n6 c6)) (w.heap.size + 1) 34 #[.int .i64 0, .slice none 0 0] := (show Blk w6 _ _ _ from hR6).setOther (a := ⟨s, 1, none⟩) (show w.heap.size + 1 ≠ s from by omega) (.slice b6 n6 c6)
   have hO7 := hv6.setCell (a := ⟨s, 1, none⟩) (fun g hg e => by obtain ⟨cs, hcs⟩ := hv6.blk_of hg; exact hX6.ne hcs typesVV e.symm) (.slice b6 n6 c6)
   have hbS : Below (w.heap.size + 2) w6 (w6.setCell ⟨s, 1, none⟩ (.slice b6 n6 c6)) := (Below.refl _ _).setCell (show w.heap.size + 2 ≤ s from hs) _
   have hgr7 := belowKeeps hgr6 hbS (by omega)
   have hq7 := hq6.belowR hbS (by omega)
   refine rd1 10 (fun K hK => ?_)
   go_simp
   refine hK.out _ _ ?_ (fun hHeld => ?_)
   focus ((try dsimp only); (rw [hX7.cell]; rfl))
   clear hK K
   try simp only [Act.put, pa, pb, pc]
   refine wpAnyH_done (by kernel_rfl) ?_ _
   have y0 : (w6.setCell ⟨s, 1, none⟩ (.slice b6 n6 c6)).cell? ⟨s, 0, none⟩ = some (.int .i64 z) := by rw [hX7.cell]; rfl
   have y1 : (w6.setCell ⟨s, 1, none⟩ (.slice b6 n6 c6)).cell? ⟨s, 1, none⟩ = some (.slice b6 n6 c6) := by rw [hX7.cell]; rfl
   have d0 : (w6.setCell ⟨s, 1, none⟩ (.slice b6 n6 c6)).cell? ⟨w.heap.size + 1, 0, none⟩ = some (.int .i64 0) := by rw [hR7.cell]; rfl
   have d1 : (w6.setCell ⟨s, 1, none⟩ (.slice b6 n6 c6)).cell? ⟨w.heap.size + 1, 1, none⟩ = some (.slice none 0 0) := by rw [hR7.cell]; rfl
   have f0 := hR7.free 0
   have f1 := hR7.free 1
   go_wp2
   refine bodyPost_ret (v := .agg #[.int .i64 z, .slice b6 n6 c6]) (by simp [results, Tryz.results94, go_sem, d0, d1]) rfl ⟨z, .slice b6 n6 c6, (l ++ [l[kk]]), rfl, ?_, HFA.out, ⟨by omega, by omega⟩, by rw [List.length_append, List.length_singleton]; omega, ?_⟩
   ·
    have hne : ∀ g, (.slice b6 n6 c6 : Value).ownBlock = some g → g ≠ w.heap.size + 1 := fun g hg => by have := (hO7.block_lt hg).1; have := HAR.out; omega
    exact ((hO7.setCell (a := ⟨w.heap.size + 1, 0, none⟩) hne _).setCell (a := ⟨w.heap.size + 1, 1, none⟩) hne _).low (by have := HAR.out; omega)
   ·
    exact ⟨hgS hgr7, q4, by omega, by omega, hqS hq7⟩
  ·
   go_simp
   refine hK.out _ _ ?_ (fun hHeld => ?_)
   focus ((try dsimp only); (exact x0))
   clear hK K
   try simp only [Act.put, pa, pb, pc]
   refine tk 5 ?_
   refine wpAnyH_ready (rs := [1, 6]) (by kernel_rfl) (by simp) (AllReadyH.cons (by (simp only [ga, gb, gc]; rfl)) (fun K hK => ?_) (AllReadyH.cons (by (simp only [ga, gb, gc]; rfl)) (fun K hK => ?_) AllReadyH.nil))
   ·
    go_simp
    refine hK.out _ _ ?_ (fun hHeld => ?_)
    focus ((try dsimp only); (exact x0))
    clear hK K
    try simp only [Act.put, pa, pb, pc]
    refine rd1 6 (fun K hK => ?_)
    go_simp
    refine hK.out _ _ ?_ (fun hHeld => ?_)
    focus ((try dsimp only); (exact x0))
    clear hK K
    try simp only [Act.put, pa, pb, pc]
    have hX5d := hX5
    refine rd1 7 (fun K hK => ?_)
    go_simp
    refine hK.out _ _ ?_ (fun hHeld => ?_)
    focus ((try dsimp only); (rw [hX5.cell]; rfl))
    clear hK K
    try simp only [Act.put, pa, pb, pc]
    refine rd1 8 (fun K hK => ?_)
    refine step_appG (α := V) ((w4.alloc (.cells #[.string l[kk].k, .int .i64 l[kk].n, .int .i64 l[kk].f, .int .i64 l[kk].t] 118)).drew) rfl _ _ _ _ 118 rfl Tryz.underlying32 Tryz.underlying32 (w.heap.size + 2) (Value.slice (some ⟨gl, o, none⟩) l.length cl) l rfl (hO5.low (by omega)) (some ⟨w4.heap.size, 0, none⟩) 1 _ 1 [l[kk]] rfl rfl (rdOneV w4 l[kk] 118) (by rw [List.length_singleton]; omega) hba ?_
    intro v6 w6 hv6 hg6 hat6
    obtain ⟨b6, n6, c6, rfl⟩ := hv6.slice
    have hX6 := hX5.grown hg6 (fun e => HSG.out (Option.some.inj e))
    have hbT : Below (w.heap.size + 2) ((w4.alloc (.cells #[.string l[kk].k, .int .i64 l[kk].n, .int .i64 l[kk].f, .int .i64 l[kk].t] 118)).drew) w6 := (Below.refl _ _).grown hg6 hba (fun k hk => by have h : gl = k := Option.some.inj hk; omega)
    have hR6 := (hbT.block _ (by omega)).trans hR5
    have hgr6 := belowKeeps hgr5 hbT (by omega)
    have hq6 := hq5.belowR hbT (by omega)
    have y1' : w6.cell? ⟨s, 1, none⟩ = some (.slice (some ⟨gl, o, none⟩) l.length cl) := (by rw [hX6.cell]; rfl)
    have ff := hX6.free 1
    refine hK.out _ _ ?_ (fun hHeld => ?_)
    focus ((try dsimp only); (rw [hX6.cell]; rfl))
    clear hK K
    try simp only [Act.put, pa, pb, pc]
    refine tk 9 ?_
    have hX7 : Blk (w6.setCell ⟨s, 1, none⟩ (.slice b6 n6 c6)) s 34 #[.int .i64 z, .slice b6 n6 c6] := (hX6.set_ 1 _).cast rfl
    have hR7 : Blk (w6.setCell ⟨s, 1, none⟩ (.slice b6 n6 c6)) (w.heap.size + 1) 34 #[.int .i64 0, .slice none 0 0] := (show Blk w6 _ _ _ from hR6).setOther (a := ⟨s, 1, none⟩) (show w.heap.size + 1 ≠ s from by omega) (.slice b6 n6 c6)
    have hO7 := hv6.setCell (a := ⟨s, 1, none⟩) (fun g hg e => by obtain ⟨cs, hcs⟩ := hv6.blk_of hg; exact hX6.ne hcs typesVV e.symm) (.slice b6 n6 c6)
    have hbS : Below (w.heap.size + 2) w6 (w6.setCell ⟨s, 1, none⟩ (.slice b6 n6 c6)) := (Below.refl _ _).setCell (show w.heap.size + 2 ≤ s from hs) _
    have hgr7 := belowKeeps hgr6 hbS (by omega)
    have hq7 := hq6.belowR hbS (by omega)
    refine rd1 10 (fun K hK => ?_)
    go_simp
    refine hK.out _ _ ?_ (fun hHeld => ?_)
    focus ((try dsimp only); (rw [hX7.cell]; rfl))
    clear hK K
    try simp only [Act.put, pa, pb, pc]
    refine wpAnyH_done (by kernel_rfl) ?_ _
    have y0 : (w6.setCell ⟨s, 1, none⟩ (.slice b6 n6 c6)).cell? ⟨s, 0, none⟩ = some (.int .i64 z) := by rw [hX7.cell]; rfl
    have y1 : (w6.setCell ⟨s, 1, none⟩ (.slice b6 n6 c6)).cell? ⟨s, 1, none⟩ = some (.slice b6 n6 c6) := by rw [hX7.cell]; rfl
    have d0 : (w6.setCell ⟨s, 1, none⟩ (.slice b6 n6 c6)).cell? ⟨w.heap.size + 1, 0, none⟩ = some (.int .i64 0) := by rw [hR7.cell]; rfl
    have d1 : (w6.setCell ⟨s, 1, none⟩ (.slice b6 n6 c6)).cell? ⟨w.heap.size + 1, 1, none⟩ = some (.slice none 0 0) := by rw [hR7.cell]; rfl
    have f0 := hR7.free 0
    have f1 := hR7.free 1
    go_wp2
    refine bodyPost_ret (v := .agg #[.int .i64 z, .slice b6 n6 c6]) (by simp [results, Tryz.results94, go_sem, d0, d1]) rfl ⟨z, .slice b6 n6 c6, (l ++ [l[kk]]), rfl, ?_, HFA.out, ⟨by omega, by omega⟩, by rw [List.length_append, List.length_singleton]; omega, ?_⟩
    ·
     have hne : ∀ g, (.slice b6 n6 c6 : Value).ownBlock = some g → g ≠ w.heap.size + 1 := fun g hg => by have := (hO7.block_lt hg).1; have := HAR.out; omega
     exact ((hO7.setCell (a := ⟨w.heap.size + 1, 0, none⟩) hne _).setCell (a := ⟨w.heap.size + 1, 1, none⟩) hne _).low (by have := HAR.out; omega)
    ·
     exact ⟨hgS hgr7, q4, by omega, by omega, hqS hq7⟩
   ·
    go_simp
    refine hK.out _ _ ?_ (fun hHeld => ?_)
    focus ((try dsimp only); (exact x0))
    clear hK K
    try simp only [Act.put, pa, pb, pc]
    refine wpAnyH_ready (rs := [1, 7]) (by kernel_rfl) (by simp) (AllReadyH.cons (by (simp only [ga, gb, gc]; rfl)) (fun K hK => ?_) (AllReadyH.cons (by (simp only [ga, gb, gc]; rfl)) (fun K hK => ?_) AllReadyH.nil))
    ·
     go_simp
     refine hK.out _ _ ?_ (fun hHeld => ?_)
     focus ((try dsimp only); (exact x0))
     clear hK K
     try simp only [Act.put, pa, pb, pc]
     have hX5d := hX5
     refine rd1 7 (fun K hK => ?_)
     go_simp
     refine hK.out _ _ ?_ (fun hHeld => ?_)
     focus ((try dsimp only); (rw [hX5.cell]; rfl))
     clear hK K
     try simp only [Act.put, pa, pb, pc]
     refine rd1 8 (fun K hK => ?_)
     refine step_appG (α := V) ((w4.alloc (.cells #[.string l[kk].k, .int .i64 l[kk].n, .int .i64 l[kk].f, .int .i64 l[kk].t] 118)).drew) rfl _ _ _ _ 118 rfl Tryz.underlying32 Tryz.underlying32 (w.heap.size + 2) (Value.slice (some ⟨gl, o, none⟩) l.length cl) l rfl (hO5.low (by omega)) (some ⟨w4.heap.size, 0, none⟩) 1 _ 1 [l[kk]] rfl rfl (rdOneV w4 l[kk] 118) (by rw [List.length_singleton]; omega) hba ?_
     intro v6 w6 hv6 hg6 hat6
     obtain ⟨b6, n6, c6, rfl⟩ := hv6.slice
     have hX6 := hX5.grown hg6 (fun e => HSG.out (Option.some.inj e))
     have hbT : Below (w.heap.size + 2) ((w4.alloc (.cells #[.string l[kk].k, .int .i64 l[kk].n, .int .i64 l[kk].f, .int .i64 l[kk].t] 118)).drew) w6 := (Below.refl _ _).grown hg6 hba (fun k hk => by have h : gl = k := Option.some.inj hk; omega)
     have hR6 := (hbT.block _ (by omega)).trans hR5
     have hgr6 := belowKeeps hgr5 hbT (by omega)
     have hq6 := hq5.belowR hbT (by omega)
     have y1' : w6.cell? ⟨s, 1, none⟩ = some (.slice (some ⟨gl, o, none⟩) l.length cl) := (by rw [hX6.cell]; rfl)
     have ff := hX6.free 1
     refine hK.out _ _ ?_ (fun hHeld => ?_)
     focus ((try dsimp only); (rw [hX6.cell]; rfl))
     clear hK K
     try simp only [Act.put, pa, pb, pc]
     refine tk 9 ?_
     have hX7 : Blk (w6.setCell ⟨s, 1, none⟩ (.slice b6 n6 c6)) s 34 #[.int .i64 z, .slice b6 n6 c6] := (hX6.set_ 1 _).cast rfl
     have hR7 : Blk (w6.setCell ⟨s, 1, none⟩ (.slice b6 n6 c6)) (w.heap.size + 1) 34 #[.int .i64 0, .slice none 0 0] := (show Blk w6 _ _ _ from hR6).setOther (a := ⟨s, 1, none⟩) (show w.heap.size + 1 ≠ s from by omega) (.slice b6 n6 c6)
     have hO7 := hv6.setCell (a := ⟨s, 1, none⟩) (fun g hg e => by obtain ⟨cs, hcs⟩ := hv6.blk_of hg; exact hX6.ne hcs typesVV e.symm) (.slice b6 n6 c6)
     have hbS : Below (w.heap.size + 2) w6 (w6.setCell ⟨s, 1, none⟩ (.slice b6 n6 c6)) := (Below.refl _ _).setCell (show w.heap.size + 2 ≤ s from hs) _
     have hgr7 := belowKeeps hgr6 hbS (by omega)
     have hq7 := hq6.belowR hbS (by omega)
     refine rd1 10 (fun K hK => ?_)
     go_simp
     refine hK.out _ _ ?_ (fun hHeld => ?_)
     focus ((try dsimp only); (rw [hX7.cell]; rfl))
     clear hK K
     try simp only [Act.put, pa, pb, pc]
     refine wpAnyH_done (by kernel_rfl) ?_ _
     have y0 : (w6.setCell ⟨s, 1, none⟩ (.slice b6 n6 c6)).cell? ⟨s, 0, none⟩ = some (.int .i64 z) := by rw [hX7.cell]; rfl
     have y1 : (w6.setCell ⟨s, 1, none⟩ (.slice b6 n6 c6)).cell? ⟨s, 1, none⟩ = some (.slice b6 n6 c6) := by rw [hX7.cell]; rfl
     have d0 : (w6.setCell ⟨s, 1, none⟩ (.slice b6 n6 c6)).cell? ⟨w.heap.size + 1, 0, none⟩ = some (.int .i64 0) := by rw [hR7.cell]; rfl
     have d1 : (w6.setCell ⟨s, 1, none⟩ (.slice b6 n6 c6)).cell? ⟨w.heap.size + 1, 1, none⟩ = some (.slice none 0 0) := by rw [hR7.cell]; rfl
     have f0 := hR7.free 0
     have f1 := hR7.free 1
     go_wp2
     refine bodyPost_ret (v := .agg #[.int .i64 z, .slice b6 n6 c6]) (by simp [results, Tryz.results94, go_sem, d0, d1]) rfl ⟨z, .slice b6 n6 c6, (l ++ [l[kk]]), rfl, ?_, HFA.out, ⟨by omega, by omega⟩, by rw [List.length_append, List.length_singleton]; omega, ?_⟩
     ·
      have hne : ∀ g, (.slice b6 n6 c6 : Value).ownBlock = some g → g ≠ w.heap.size + 1 := fun g hg => by have := (hO7.block_lt hg).1; have := HAR.out; omega
      exact ((hO7.setCell (a := ⟨w.heap.size + 1, 0, none⟩) hne _).setCell (a := ⟨w.heap.size + 1, 1, none⟩) hne _).low (by have := HAR.out; omega)
     ·
      exact ⟨hgS hgr7, q4, by omega, by omega, hqS hq7⟩
    ·
     have x15 : ((w4.alloc (.cells #[.string l[kk].k, .int .i64 l[kk].n, .int .i64 l[kk].f, .int .i64 l[kk].t] 118)).drew).cell? ⟨s, 1, none⟩ = some (.slice (some ⟨gl, o, none⟩) l.length cl) := (by rw [hX5.cell]; rfl)
     go_simp
     refine hK.out _ _ ?_ (fun hHeld => ?_)
     focus ((try dsimp only); (rw [hX5.cell]; rfl))
     clear hK K
     try simp only [Act.put, pa, pb, pc]
     refine rd1 1 (fun K hK => ?_)
     go_simp
     refine hK.out _ _ ?_ (fun hHeld => ?_)
     focus ((try dsimp only); (rw [hX5.cell]; rfl))
     clear hK K
     try simp only [Act.put, pa, pb, pc]
     refine rd1 8 (fun K hK => ?_)
     refine step_appG (α := V) ((w4.alloc (.cells #[.string l[kk].k, .int .i64 l[kk].n, .int .i64 l[kk].f, .int .i64 l[kk].t] 118)).drew) rfl _ _ _ _ 118 rfl Tryz.underlying32 Tryz.underlying32 (w.heap.size + 2) (Value.slice (some ⟨gl, o, none⟩) l.length cl) l rfl (hO5.low (by omega)) (some ⟨w4.heap.size, 0, none⟩) 1 _ 1 [l[kk]] rfl rfl (rdOneV w4 l[kk] 118) (by rw [List.length_singleton]; omega) hba ?_
     intro v6 w6 hv6 hg6 hat6
     obtain ⟨b6, n6, c6, rfl⟩ := hv6.slice
     have hX6 := hX5.grown hg6 (fun e => HSG.out (Option.some.inj e))
     have hbT : Below (w.heap.size + 2) ((w4.alloc (.cells #[.string l[kk].k, .int .i64 l[kk].n, .int .i64 l[kk].f, .int .i64 l[kk].t] 118)).drew) w6 := (Below.refl _ _).grown hg6 hba (fun k hk => by have h : gl = k := Option.some.inj hk; omega)
     have hR6 := (hbT.block _ (by omega)).trans hR5
     have hgr6 := belowKeeps hgr5 hbT (by omega)
     have hq6 := hq5.belowR hbT (by omega)
     have y1' : w6.cell? ⟨s, 1, none⟩ = some (.slice (some ⟨gl, o, none⟩) l.length cl) := (by rw [hX6.cell]; rfl)
     have ff := hX6.free 1
     refine hK.out _ _ ?_ (fun hHeld => ?_)
     focus ((try dsimp only); (rw [hX6.cell]; rfl))
     clear hK K
     try simp only [Act.put, pa, pb, pc]
     refine tk 9 ?_
     have hX7 : Blk (w6.setCell ⟨s, 1, none⟩ (.slice b6 n6 c6)) s 34 #[.int .i64 z, .slice b6 n6 c6] := (hX6.set_ 1 _).cast rfl
     have hR7 : Blk (w6.setCell ⟨s, 1, none⟩ (.slice b6 n6 c6)) (w.heap.size + 1) 34 #[.int .i64 0, .slice none 0 0] := (show Blk w6 _ _ _ from hR6).setOther (a := ⟨s, 1, none⟩) (show w.heap.size + 1 ≠ s from by omega) (.slice b6 n6 c6)
     have hO7 := hv6.setCell (a := ⟨s, 1, none⟩) (fun g hg e => by obtain ⟨cs, hcs⟩ := hv6.blk_of hg; exact hX6.ne hcs typesVV e.symm) (.slice b6 n6 c6)
     have hbS : Below (w.heap.size + 2) w6 (w6.setCell ⟨s, 1, none⟩ (.slice b6 n6 c6)) := (Below.refl _ _).setCell (show w.heap.size + 2 ≤ s from hs) _
     have hgr7 := belowKeeps hgr6 hbS (by omega)
     have hq7 := hq6.belowR hbS (by omega)
     refine rd1 10 (fun K hK => ?_)
     go_simp
     refine hK.out _ _ ?_ (fun hHeld => ?_)
     focus ((try dsimp only); (rw [hX7.cell]; rfl))
     clear hK K
     try simp only [Act.put, pa, pb, pc]
     refine wpAnyH_done (by kernel_rfl) ?_ _
     have y0 : (w6.setCell ⟨s, 1, none⟩ (.slice b6 n6 c6)).cell? ⟨s, 0, none⟩ = some (.int .i64 z) := by rw [hX7.cell]; rfl
     have y1 : (w6.setCell ⟨s, 1, none⟩ (.slice b6 n6 c6)).cell? ⟨s, 1, none⟩ = some (.slice b6 n6 c6) := by rw [hX7.cell]; rfl
     have d0 : (w6.setCell ⟨s, 1, none⟩ (.slice b6 n6 c6)).cell? ⟨w.heap.size + 1, 0, none⟩ = some (.int .i64 0) := by rw [hR7.cell]; rfl
     have d1 : (w6.setCell ⟨s, 1, none⟩ (.slice b6 n6 c6)).cell? ⟨w.heap.size + 1, 1, none⟩ = some (.slice none 0 0) := by rw [hR7.cell]; rfl
     have f0 := hR7.free 0
     have f1 := hR7.free 1
     go_wp2
     refine bodyPost_ret (v := .agg #[.int .i64 z, .slice b6 n6 c6]) (by simp [results, Tryz.results94, go_sem, d0, d1]) rfl ⟨z, .slice b6 n6 c6, (l ++ [l[kk]]), rfl, ?_, HFA.out, ⟨by omega, by omega⟩, by rw [List.length_append, List.length_singleton]; omega, ?_⟩
     ·
      have hne : ∀ g, (.slice b6 n6 c6 : Value).ownBlock = some g → g ≠ w.heap.size + 1 := fun g hg => by have := (hO7.block_lt hg).1; have := HAR.out; omega
      exact ((hO7.setCell (a := ⟨w.heap.size + 1, 0, none⟩) hne _).setCell (a := ⟨w.heap.size + 1, 1, none⟩) hne _).low (by have := HAR.out; omega)
     ·
      exact ⟨hgS hgr7, q4, by omega, by omega, hqS hq7⟩
 ·
  have hbA : Below w4.heap.size w4 (w4.alloc (.cells #[.int .i64 1000, .int .i64 5] 3)).drew := (below_alloc (Below.refl _ _) _).drew
  have hX5 := hX4.next hbA
  have hR5 := hR4.next hbA
  have hO5 := hO4.next hbA
  have hgr5 := grown_call hgr4 hbA
  have hq5 := hq4.next hbA
  have hN5 : Blk (w4.alloc (.cells #[.int .i64 1000, .int .i64 5] 3)).drew w4.heap.size 3 #[.int .i64 1000, .int .i64 5] := blkA w4 _ _
  have hw4 := hgr4.size
  go_wp2
  refine wp_region_held_drew (S := (fun W => W.cell? ⟨s, 0, none⟩ = some (.int .i64 z) ∧ W.cell? ⟨s, 1, none⟩ = some (.slice (some ⟨gl, o, none⟩) l.length cl))) (by kernel_rfl) ?_ (fun hHeld => ?_)
  focus ((try dsimp only); (exact ⟨by rw [hX4d.cell]; rfl, by rw [hX4d.cell]; rfl⟩))
  refine tk 0 ?_
  refine tk 1 ?_
  refine tk 2 ?_
  refine tk 3 ?_
  refine rd1 4 (fun K hK => ?_)
  go_simp
  refine hK.out _ _ ?_ (fun hHeld => ?_)
  focus ((try dsimp only); (exact ⟨by rw [hX5.cell]; rfl, by rw [hX5.cell]; rfl⟩))
  clear hK K
  try simp only [Act.put, pa, pb, pc]
  (refine rd1 5 (fun K hK => ?_); go_simp; (go_at_call 133; refine (num_d g A n c q4 w4.heap.size bn5 _ hq5 (by omega) (by omega) hN5 2 rfl (by omega) (by omega)).mono ?_; rintro e w6 ⟨nv, rfl, hnv, hd6⟩; obtain ⟨q6, h61, h62, hq6⟩ := hd6.rdr; have hX6 := hX5.drawn (by have := HAR.out; omega) hd6.grown; have hR6 := hR5.drawn (by have := HAR.out; omega) hd6.grown; have hO6 := hO5.drawn (by have := HAR.out; omega) hd6.grown; have hgr6 := hgr5.trans hd6.grown; have hOs := hO6.setAt HO0.out (i := kk) (r := l[kk]) (r' := ⟨l[kk].k, nv, l[kk].f, l[kk].t⟩) (j := 1) (u := .int .i64 nv) hkl (by decide) rfl; have hfz : w6.frozen? ⟨gl, o + kk * 4 + 1, none⟩ = false := (by obtain ⟨cs, hcs⟩ := hO6.blk_of (g := gl) rfl; exact hcs.free _); obtain ⟨u0, u1, u2, u3⟩ := hO6.rd'.2.2.2.cellsV hkl); go_wp2_with fail; refine hK.out _ _ ?_ (fun hHeld => ?_); (focus ((try dsimp only); (exact ⟨by rw [hX6.cell]; rfl, by rw [hX6.cell]; rfl⟩))); clear hK K; (try simp only [Act.put, pa, pb, pc]))
  have hX7 := hX6.setOther (a := ⟨gl, o + kk * 4 + 1, none⟩) (show s ≠ gl from HSG.out) (.int .i64 nv)
  have hR7 := hR6.setOther (a := ⟨gl, o + kk * 4 + 1, none⟩) (show w.heap.size + 1 ≠ gl from by have := HAR.out; omega) (.int .i64 nv)
  have hbS : Below (w.heap.size + 2) w6 (w6.setCell ⟨gl, o + kk * 4 + 1, none⟩ (.int .i64 nv)) := (Below.refl _ _).setCell (show w.heap.size + 2 ≤ gl from by have := HAR.out; omega) _
  have hgr7 := belowKeeps hgr6 hbS (by omega)
  have hq7 := hq6.belowR hbS (by omega)
  refine tk 6 ?_
  refine tk 7 ?_
  refine rd1 8 (fun K hK => ?_)
  go_simp
  refine hK.out _ _ ?_ (fun hHeld => ?_)
  focus ((try dsimp only); (exact ⟨by rw [hX7.cell]; rfl, by rw [hX7.cell]; rfl⟩))
  clear hK K
  try simp only [Act.put, pa, pb, pc]
  refine wpAnyH_done (by kernel_rfl) ?_ _
  have y0 : (w6.setCell ⟨gl, o + kk * 4 + 1, none⟩ (.int .i64 nv)).cell? ⟨s, 0, none⟩ = some (.int .i64 z) := by rw [hX7.cell]; rfl
  have y1 : (w6.setCell ⟨gl, o + kk * 4 + 1, none⟩ (.int .i64 nv)).cell? ⟨s, 1, none⟩ = some (.slice (some ⟨gl, o, none⟩) l.length cl) := by rw [hX7.cell]; rfl
  have d0 : (w6.setCell ⟨gl, o + kk * 4 + 1, none⟩ (.int .i64 nv)).cell? ⟨w.heap.size + 1, 0, none⟩ = some (.int .i64 0) := by rw [hR7.cell]; rfl
  have d1 : (w6.setCell ⟨gl, o + kk * 4 + 1, none⟩ (.int .i64 nv)).cell? ⟨w.heap.size + 1, 1, none⟩ = some (.slice none 0 0) := by rw [hR7.cell]; rfl
  have f0 := hR7.free 0
  have f1 := hR7.free 1
  go_wp2
  refine bodyPost_ret (v := .agg #[.int .i64 z, .slice (some ⟨gl, o, none⟩) l.length cl]) (by simp [results, Tryz.results94, go_sem, d0, d1]) rfl ⟨z, .slice (some ⟨gl, o, none⟩) l.length cl, (l.set kk ⟨l[kk].k, nv, l[kk].f, l[kk].t⟩), rfl, ?_, hfit.set kk ⟨hfk.1, (bn5_z nv hnv).1, (bn5_z nv hnv).2, hfk.2.2.2⟩, ⟨by omega, by omega⟩, by rw [List.length_set]; omega, ?_⟩
  ·
   have hne : ∀ g, (.slice (some ⟨gl, o, none⟩) l.length cl : Value).ownBlock = some g → g ≠ w.heap.size + 1 := fun g hg => by have := (hOs.block_lt hg).1; have := HAR.out; omega
   exact ((hOs.setCell (a := ⟨w.heap.size + 1, 0, none⟩) hne _).setCell (a := ⟨w.heap.size + 1, 1, none⟩) hne _).low (by have := HAR.out; omega)
  ·
   exact ⟨hgS hgr7, q6, by omega, by omega, hqS hq7⟩

end Go.Proofs.YtbeklnhngjmpiaaGreat
