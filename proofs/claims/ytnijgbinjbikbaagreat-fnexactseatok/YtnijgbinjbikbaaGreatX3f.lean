/- The program's chapter 3: WorkOk, WorkRows. -/
import Derived.Test.YtnijgbinjbikbaaGreatX3e
import Derived.Test.YtnijgbinjbikbaaGreatW3e
namespace Go.Proofs.YtnijgbinjbikbaaGreat
open Go.RowKit
set_option linter.unusedVariables false
set_option maxRecDepth 100000

set_option maxHeartbeats 4000000 in
theorem implWorkOk (z : Int) (A : Option Addr) (c : Nat) (l : List V) (a : Int) (B : Option Addr) (d : Nat) (ws : List X) (w : World) (hf : FitVs l) (hc : l.length ≤ c) (hm : c ≤ maxLen) (hl : l.length ≤ 1048576) (hfx : FitXs ws) (hd : ws.length ≤ d) (hmd : d ≤ maxLen) (hlx : ws.length ≤ 1048576) (hr : RdG w w.heap.size A l) (hrx : RdG w w.heap.size B ws) :
  Calls Tryz.prog 27 #[.agg #[.int .i64 z, .slice A l.length c], .agg #[.int .i64 a, .slice B ws.length d]] w fun e w' => e = .returned (.bool (workB z l a ws)) ∧ Below w.heap.size w w' := by
 go_enter Tryz.func27, Tryz.ntmps27
 have hb_t1 := below_alloc (Below.refl _ w) (.cells #[.int .i64 z, .slice A l.length c] 32)
 have Bv_t1 := blkA w #[.int .i64 z, .slice A l.length c] 32
 have hz_t1 : (w.alloc (.cells #[.int .i64 z, .slice A l.length c] 32)).heap.size = w.heap.size + 1 := World.size_alloc _ _
 have hw_t2 := hb_t1
 have hs_t2 := hb_t1.size
 have hb_t4 := below_alloc (Below.refl _ (w.alloc (.cells #[.int .i64 z, .slice A l.length c] 32))) (.cells #[.int .i64 a, .slice B ws.length d] 25)
 have Bw_t4 := blkA (w.alloc (.cells #[.int .i64 z, .slice A l.length c] 32)) #[.int .i64 a, .slice B ws.length d] 25
 simp only [World.size_alloc] at Bw_t4
 have hz_t4 : ((w.alloc (.cells #[.int .i64 z, .slice A l.length c] 32)).alloc (.cells #[.int .i64 a, .slice B ws.length d] 25)).heap.size = (w.alloc (.cells #[.int .i64 z, .slice A l.length c] 32)).heap.size + 1 := World.size_alloc _ _
 have Bv_t5 := Bv_t1.next hb_t4
 clear Bv_t1
 have hw_t5 := below_next hw_t2 hb_t4
 have hs_t5 := hb_t4.size
 have v_0 := hr.next hw_t5
 have x_0 := hrx.next hw_t5
 cases hv : versB z l
 ·
  have HW : Hid (workB z l a ws = false) := Lib.hid (by unfold workB; rw [hv]; rfl)
  have qBv0 : ((w.alloc (.cells #[.int .i64 z, .slice A l.length c] 32)).alloc (.cells #[.int .i64 a, .slice B ws.length d] 25)).cell? ⟨w.heap.size, 0, none⟩ = some (.int .i64 z) := by rw [Bv_t5.cell]; rfl
  have qBv1 : ((w.alloc (.cells #[.int .i64 z, .slice A l.length c] 32)).alloc (.cells #[.int .i64 a, .slice B ws.length d] 25)).cell? ⟨w.heap.size, 1, none⟩ = some (.slice A l.length c) := by rw [Bv_t5.cell]; rfl
  have qBw0 : ((w.alloc (.cells #[.int .i64 z, .slice A l.length c] 32)).alloc (.cells #[.int .i64 a, .slice B ws.length d] 25)).cell? ⟨w.heap.size + 1, 0, none⟩ = some (.int .i64 a) := by rw [Bw_t4.cell]; rfl
  have qBw1 : ((w.alloc (.cells #[.int .i64 z, .slice A l.length c] 32)).alloc (.cells #[.int .i64 a, .slice B ws.length d] 25)).cell? ⟨w.heap.size + 1, 1, none⟩ = some (.slice B ws.length d) := by rw [Bw_t4.cell]; rfl
  go_wp2
  clear qBv0 qBv1 qBw0 qBw1
  have hb_t7 : Below ((w.alloc (.cells #[.int .i64 z, .slice A l.length c] 32)).alloc (.cells #[.int .i64 a, .slice B ws.length d] 25)).heap.size ((w.alloc (.cells #[.int .i64 z, .slice A l.length c] 32)).alloc (.cells #[.int .i64 a, .slice B ws.length d] 25)) ((w.alloc (.cells #[.int .i64 z, .slice A l.length c] 32)).alloc (.cells #[.int .i64 a, .slice B ws.length d] 25)).drew := (Below.refl _ _).drew
  have v_t8 := v_0.next hb_t7
  clear v_0
  have x_t8 := x_0.next hb_t7
  clear x_0
  have Bv_t8 := Bv_t5.next hb_t7
  clear Bv_t5
  have Bw_t8 := Bw_t4.next hb_t7
  clear Bw_t4
  have hw_t8 := below_next hw_t5 hb_t7
  have hs_t8 := hb_t7.size
  refine wp_region_held_drew (S := (fun W => W.cell? ⟨w.heap.size, 0, none⟩ = some (.int .i64 z) ∧ W.cell? ⟨w.heap.size, 1, none⟩ = some (.slice A l.length c) ∧ W.cell? ⟨w.heap.size + 1, 0, none⟩ = some (.int .i64 a) ∧ W.cell? ⟨w.heap.size + 1, 1, none⟩ = some (.slice B ws.length d))) (by kernel_rfl) ?_ (fun hHeld => ?_)
  focus ((try dsimp only); (exact ⟨by rw [Bv_t8.cell]; rfl, by rw [Bv_t8.cell]; rfl, by rw [Bw_t8.cell]; rfl, by rw [Bw_t8.cell]; rfl⟩))
  refine tk 0 ?_
  (refine rd1 1 (fun K hK => ?_); go_simp; (go_at_call 11; refine (implVersOk z A c l _ hf hc hm v_t8).mono ?_; rintro e w1 ⟨rfl, hb1⟩; rw [hv]; have v_t10 := v_t8.next hb1; clear v_t8; have x_t10 := x_t8.next hb1; clear x_t8; have Bv_t10 := Bv_t8.next hb1; clear Bv_t8; have Bw_t10 := Bw_t8.next hb1; clear Bw_t8; have hw_t10 := below_next hw_t8 hb1; have hs_t10 := hb1.size); go_wp2_with fail; refine hK.out _ _ ?_ (fun hHeld => ?_); (focus ((try dsimp only); (exact ⟨by rw [Bv_t10.cell]; rfl, by rw [Bv_t10.cell]; rfl, by rw [Bw_t10.cell]; rfl, by rw [Bw_t10.cell]; rfl⟩))); clear hK K; (try simp only [Act.put, pa, pb, pc]))
  refine tk 2 ?_
  refine ts 3 ?_
  refine ts 4 ?_
  refine ts 5 ?_
  refine tk 6 ?_
  refine tk 7 ?_
  refine ts 8 ?_
  refine ts 9 ?_
  refine ts 10 ?_
  refine ts 11 ?_
  refine ts 12 ?_
  refine tk 13 ?_
  refine tk 14 ?_
  refine ts 15 ?_
  refine ts 16 ?_
  refine ts 17 ?_
  refine tk 18 ?_
  refine tk 19 ?_
  refine ts 20 ?_
  refine ts 21 ?_
  refine ts 22 ?_
  refine ts 23 ?_
  refine ts 24 ?_
  refine tk 25 ?_
  refine tk 26 ?_
  refine wpAnyH_done (by kernel_rfl) ?_ _
  have qBv0 : w1.cell? ⟨w.heap.size, 0, none⟩ = some (.int .i64 z) := by rw [Bv_t10.cell]; rfl
  have qBv1 : w1.cell? ⟨w.heap.size, 1, none⟩ = some (.slice A l.length c) := by rw [Bv_t10.cell]; rfl
  have qBw0 : w1.cell? ⟨w.heap.size + 1, 0, none⟩ = some (.int .i64 a) := by rw [Bw_t10.cell]; rfl
  have qBw1 : w1.cell? ⟨w.heap.size + 1, 1, none⟩ = some (.slice B ws.length d) := by rw [Bw_t10.cell]; rfl
  go_wp2
  go_ret
  exact ⟨ret_bool (HW.out).symm, hw_t10⟩
 ·
  by_cases h0 : 0 ≤ a
  ·
   have hd0 : decide (0 ≤ a) = true := decide_eq_true h0
   by_cases h1 : a ≤ z
   ·
    have hd1 : decide (a ≤ z) = true := decide_eq_true h1
    cases hx : writesB ws
    ·
     have HW : Hid (workB z l a ws = false) := Lib.hid (by unfold workB; rw [hv, hd0, hd1, hx]; rfl)
     have qBv0 : ((w.alloc (.cells #[.int .i64 z, .slice A l.length c] 32)).alloc (.cells #[.int .i64 a, .slice B ws.length d] 25)).cell? ⟨w.heap.size, 0, none⟩ = some (.int .i64 z) := by rw [Bv_t5.cell]; rfl
     have qBv1 : ((w.alloc (.cells #[.int .i64 z, .slice A l.length c] 32)).alloc (.cells #[.int .i64 a, .slice B ws.length d] 25)).cell? ⟨w.heap.size, 1, none⟩ = some (.slice A l.length c) := by rw [Bv_t5.cell]; rfl
     have qBw0 : ((w.alloc (.cells #[.int .i64 z, .slice A l.length c] 32)).alloc (.cells #[.int .i64 a, .slice B ws.length d] 25)).cell? ⟨w.heap.size + 1, 0, none⟩ = some (.int .i64 a) := by rw [Bw_t4.cell]; rfl
     have qBw1 : ((w.alloc (.cells #[.int .i64 z, .slice A l.length c] 32)).alloc (.cells #[.int .i64 a, .slice B ws.length d] 25)).cell? ⟨w.heap.size + 1, 1, none⟩ = some (.slice B ws.length d) := by rw [Bw_t4.cell]; rfl
     go_wp2
     clear qBv0 qBv1 qBw0 qBw1
     have hb_t7 : Below ((w.alloc (.cells #[.int .i64 z, .slice A l.length c] 32)).alloc (.cells #[.int .i64 a, .slice B ws.length d] 25)).heap.size ((w.alloc (.cells #[.int .i64 z, .slice A l.length c] 32)).alloc (.cells #[.int .i64 a, .slice B ws.length d] 25)) ((w.alloc (.cells #[.int .i64 z, .slice A l.length c] 32)).alloc (.cells #[.int .i64 a, .slice B ws.length d] 25)).drew := (Below.refl _ _).drew
     have v_t8 := v_0.next hb_t7
     clear v_0
     have x_t8 := x_0.next hb_t7
     clear x_0
     have Bv_t8 := Bv_t5.next hb_t7
     clear Bv_t5
     have Bw_t8 := Bw_t4.next hb_t7
     clear Bw_t4
     have hw_t8 := below_next hw_t5 hb_t7
     have hs_t8 := hb_t7.size
     refine wp_region_held_drew (S := (fun W => W.cell? ⟨w.heap.size, 0, none⟩ = some (.int .i64 z) ∧ W.cell? ⟨w.heap.size, 1, none⟩ = some (.slice A l.length c) ∧ W.cell? ⟨w.heap.size + 1, 0, none⟩ = some (.int .i64 a) ∧ W.cell? ⟨w.heap.size + 1, 1, none⟩ = some (.slice B ws.length d))) (by kernel_rfl) ?_ (fun hHeld => ?_)
     focus ((try dsimp only); (exact ⟨by rw [Bv_t8.cell]; rfl, by rw [Bv_t8.cell]; rfl, by rw [Bw_t8.cell]; rfl, by rw [Bw_t8.cell]; rfl⟩))
     refine tk 0 ?_
     (refine rd1 1 (fun K hK => ?_); go_simp; (go_at_call 11; refine (implVersOk z A c l _ hf hc hm v_t8).mono ?_; rintro e w1 ⟨rfl, hb1⟩; rw [hv]; have v_t10 := v_t8.next hb1; clear v_t8; have x_t10 := x_t8.next hb1; clear x_t8; have Bv_t10 := Bv_t8.next hb1; clear Bv_t8; have Bw_t10 := Bw_t8.next hb1; clear Bw_t8; have hw_t10 := below_next hw_t8 hb1; have hs_t10 := hb1.size); go_wp2_with fail; refine hK.out _ _ ?_ (fun hHeld => ?_); (focus ((try dsimp only); (exact ⟨by rw [Bv_t10.cell]; rfl, by rw [Bv_t10.cell]; rfl, by rw [Bw_t10.cell]; rfl, by rw [Bw_t10.cell]; rfl⟩))); clear hK K; (try simp only [Act.put, pa, pb, pc]))
     refine tk 2 ?_
     refine tk 3 ?_
     refine tk 4 ?_
     refine tk 5 ?_
     refine tk 6 ?_
     refine tk 7 ?_
     refine tk 8 ?_
     refine tk 9 ?_
     refine tk 10 ?_
     refine tk 11 ?_
     refine tk 12 ?_
     refine tk 13 ?_
     refine tk 14 ?_
     refine tk 15 ?_
     refine tk 16 ?_
     (refine rd1 17 (fun K hK => ?_); go_simp; (go_at_call 51; refine (implWritesOk B d ws _ hfx (by omega) x_t10).mono ?_; rintro e w2 ⟨rfl, hb2⟩; rw [hx]; have v_t12 := v_t10.next hb2; clear v_t10; have x_t12 := x_t10.next hb2; clear x_t10; have Bv_t12 := Bv_t10.next hb2; clear Bv_t10; have Bw_t12 := Bw_t10.next hb2; clear Bw_t10; have hw_t12 := below_next hw_t10 hb2; have hs_t12 := hb2.size); go_wp2_with fail; refine hK.out _ _ ?_ (fun hHeld => ?_); (focus ((try dsimp only); (exact ⟨by rw [Bv_t12.cell]; rfl, by rw [Bv_t12.cell]; rfl, by rw [Bw_t12.cell]; rfl, by rw [Bw_t12.cell]; rfl⟩))); clear hK K; (try simp only [Act.put, pa, pb, pc]))
     refine tk 18 ?_
     refine tk 19 ?_
     refine ts 20 ?_
     refine ts 21 ?_
     refine ts 22 ?_
     refine ts 23 ?_
     refine ts 24 ?_
     refine tk 25 ?_
     refine tk 26 ?_
     refine wpAnyH_done (by kernel_rfl) ?_ _
     have qBv0 : w2.cell? ⟨w.heap.size, 0, none⟩ = some (.int .i64 z) := by rw [Bv_t12.cell]; rfl
     have qBv1 : w2.cell? ⟨w.heap.size, 1, none⟩ = some (.slice A l.length c) := by rw [Bv_t12.cell]; rfl
     have qBw0 : w2.cell? ⟨w.heap.size + 1, 0, none⟩ = some (.int .i64 a) := by rw [Bw_t12.cell]; rfl
     have qBw1 : w2.cell? ⟨w.heap.size + 1, 1, none⟩ = some (.slice B ws.length d) := by rw [Bw_t12.cell]; rfl
     go_wp2
     go_ret
     exact ⟨ret_bool (HW.out).symm, hw_t12⟩
    ·
     obtain ⟨RB, HRB⟩ : ∃ RB, Hid (rowsB (viewL (atL l a) ws) = RB) := ⟨_, Lib.hid rfl⟩
     have HW : Hid (workB z l a ws = RB) := Lib.hid (by unfold workB; rw [hv, hd0, hd1, hx, HRB.out]; rfl)
     have hP := versB_iff.1 hv
     have hll := hP.len
     have hlw := (writesB_iff.1 hx).len
     have HAS := Lib.hid (writesB_iff.1 hx).ascW
     have hal := atL_length l a
     have hvl := viewL_length ws (atL l a)
     have hfv := FitR.viewL (ws := ws) (fitAt hf a) hfx
     have HKL := Lib.hid hP.ord2.keyLe
     have HO := Lib.hid hP.ord2
     clear hP
     obtain ⟨VL, HVL⟩ : ∃ VL, Hid (viewL (atL l a) ws = VL) := ⟨_, Lib.hid rfl⟩
     rw [HVL.out] at hvl hfv HRB
     have qBv0 : ((w.alloc (.cells #[.int .i64 z, .slice A l.length c] 32)).alloc (.cells #[.int .i64 a, .slice B ws.length d] 25)).cell? ⟨w.heap.size, 0, none⟩ = some (.int .i64 z) := by rw [Bv_t5.cell]; rfl
     have qBv1 : ((w.alloc (.cells #[.int .i64 z, .slice A l.length c] 32)).alloc (.cells #[.int .i64 a, .slice B ws.length d] 25)).cell? ⟨w.heap.size, 1, none⟩ = some (.slice A l.length c) := by rw [Bv_t5.cell]; rfl
     have qBw0 : ((w.alloc (.cells #[.int .i64 z, .slice A l.length c] 32)).alloc (.cells #[.int .i64 a, .slice B ws.length d] 25)).cell? ⟨w.heap.size + 1, 0, none⟩ = some (.int .i64 a) := by rw [Bw_t4.cell]; rfl
     have qBw1 : ((w.alloc (.cells #[.int .i64 z, .slice A l.length c] 32)).alloc (.cells #[.int .i64 a, .slice B ws.length d] 25)).cell? ⟨w.heap.size + 1, 1, none⟩ = some (.slice B ws.length d) := by rw [Bw_t4.cell]; rfl
     go_wp2
     clear qBv0 qBv1 qBw0 qBw1
     have hb_t7 : Below ((w.alloc (.cells #[.int .i64 z, .slice A l.length c] 32)).alloc (.cells #[.int .i64 a, .slice B ws.length d] 25)).heap.size ((w.alloc (.cells #[.int .i64 z, .slice A l.length c] 32)).alloc (.cells #[.int .i64 a, .slice B ws.length d] 25)) ((w.alloc (.cells #[.int .i64 z, .slice A l.length c] 32)).alloc (.cells #[.int .i64 a, .slice B ws.length d] 25)).drew := (Below.refl _ _).drew
     have v_t8 := v_0.next hb_t7
     clear v_0
     have x_t8 := x_0.next hb_t7
     clear x_0
     have Bv_t8 := Bv_t5.next hb_t7
     clear Bv_t5
     have Bw_t8 := Bw_t4.next hb_t7
     clear Bw_t4
     have hw_t8 := below_next hw_t5 hb_t7
     have hs_t8 := hb_t7.size
     refine wp_region_held_drew (S := (fun W => W.cell? ⟨w.heap.size, 0, none⟩ = some (.int .i64 z) ∧ W.cell? ⟨w.heap.size, 1, none⟩ = some (.slice A l.length c) ∧ W.cell? ⟨w.heap.size + 1, 0, none⟩ = some (.int .i64 a) ∧ W.cell? ⟨w.heap.size + 1, 1, none⟩ = some (.slice B ws.length d))) (by kernel_rfl) ?_ (fun hHeld => ?_)
     focus ((try dsimp only); (exact ⟨by rw [Bv_t8.cell]; rfl, by rw [Bv_t8.cell]; rfl, by rw [Bw_t8.cell]; rfl, by rw [Bw_t8.cell]; rfl⟩))
     refine tk 0 ?_
     (refine rd1 1 (fun K hK => ?_); go_simp; (go_at_call 11; refine (implVersOk z A c l _ hf hc hm v_t8).mono ?_; rintro e w1 ⟨rfl, hb1⟩; rw [hv]; have v_t10 := v_t8.next hb1; clear v_t8; have x_t10 := x_t8.next hb1; clear x_t8; have Bv_t10 := Bv_t8.next hb1; clear Bv_t8; have Bw_t10 := Bw_t8.next hb1; clear Bw_t8; have hw_t10 := below_next hw_t8 hb1; have hs_t10 := hb1.size); go_wp2_with fail; refine hK.out _ _ ?_ (fun hHeld => ?_); (focus ((try dsimp only); (exact ⟨by rw [Bv_t10.cell]; rfl, by rw [Bv_t10.cell]; rfl, by rw [Bw_t10.cell]; rfl, by rw [Bw_t10.cell]; rfl⟩))); clear hK K; (try simp only [Act.put, pa, pb, pc]))
     refine tk 2 ?_
     refine tk 3 ?_
     refine tk 4 ?_
     refine tk 5 ?_
     refine tk 6 ?_
     refine tk 7 ?_
     refine tk 8 ?_
     refine tk 9 ?_
     refine tk 10 ?_
     refine tk 11 ?_
     refine tk 12 ?_
     refine tk 13 ?_
     refine tk 14 ?_
     refine tk 15 ?_
     refine tk 16 ?_
     (refine rd1 17 (fun K hK => ?_); go_simp; (go_at_call 51; refine (implWritesOk B d ws _ hfx (by omega) x_t10).mono ?_; rintro e w2 ⟨rfl, hb2⟩; rw [hx]; have v_t12 := v_t10.next hb2; clear v_t10; have x_t12 := x_t10.next hb2; clear x_t10; have Bv_t12 := Bv_t10.next hb2; clear Bv_t10; have Bw_t12 := Bw_t10.next hb2; clear Bw_t10; have hw_t12 := below_next hw_t10 hb2; have hs_t12 := hb2.size); go_wp2_with fail; refine hK.out _ _ ?_ (fun hHeld => ?_); (focus ((try dsimp only); (exact ⟨by rw [Bv_t12.cell]; rfl, by rw [Bv_t12.cell]; rfl, by rw [Bw_t12.cell]; rfl, by rw [Bw_t12.cell]; rfl⟩))); clear hK K; (try simp only [Act.put, pa, pb, pc]))
     refine tk 18 ?_
     refine tk 19 ?_
     refine tk 20 ?_
     refine tk 21 ?_
     (refine rd1 22 (fun K hK => ?_); go_simp; (go_at_call 32; refine (storageOf_c z A c l _ (by omega) HKL.out v_t12).mono ?_; rintro e w3 ⟨s, chs, rfl, S_n, hC, hb3⟩; have hCl := hC.length; have v_t14 := v_t12.next hb3; clear v_t12; have x_t14 := x_t12.next hb3; clear x_t12; have Bv_t14 := Bv_t12.next hb3; clear Bv_t12; have Bw_t14 := Bw_t12.next hb3; clear Bw_t12; have hw_t14 := below_next hw_t12 hb3; have hs_t14 := hb3.size); go_wp2_with fail; refine hK.out _ _ ?_ (fun hHeld => ?_); (focus ((try dsimp only); (exact ⟨by rw [Bv_t14.cell]; rfl, by rw [Bv_t14.cell]; rfl, by rw [Bw_t14.cell]; rfl, by rw [Bw_t14.cell]; rfl⟩))); clear hK K; (try simp only [Act.put, pa, pb, pc]))
     (refine rd1 23 (fun K hK => ?_); go_simp; (go_at_call 53; refine (view_c _ s z a chs B d ws _ S_n (by omega) HAS.out hfx (by omega) x_t14).mono ?_; rw [mrg_view _ _ HAS.out, snap_at hC HO.out a, HVL.out]; rintro e w4 ⟨Vs, rfl, s_n, hb4⟩; obtain ⟨ads, cs, rfl, ry1_s, ry2_s, ry3_s⟩ := s_n.read; clear ry1_s ry2_s ry3_s; have v_t16 := v_t14.next hb4; clear v_t14; have x_t16 := x_t14.next hb4; clear x_t14; have S_t16 := S_n.next hb4; clear S_n; have Bv_t16 := Bv_t14.next hb4; clear Bv_t14; have Bw_t16 := Bw_t14.next hb4; clear Bw_t14; have hw_t16 := below_next hw_t14 hb4; have hs_t16 := hb4.size); go_wp2_with fail; refine hK.out _ _ ?_ (fun hHeld => ?_); (focus ((try dsimp only); (exact ⟨by rw [Bv_t16.cell]; rfl, by rw [Bv_t16.cell]; rfl, by rw [Bw_t16.cell]; rfl, by rw [Bw_t16.cell]; rfl⟩))); clear hK K; (try simp only [Act.put, pa, pb, pc]))
     (refine rd1 24 (fun K hK => ?_); go_simp; (go_at_call 52; refine (implOkO s_n hfv (by omega)).mono ?_; rintro e w5 ⟨rfl, hb5⟩; rw [HRB.out]; have v_t18 := v_t16.next hb5; clear v_t16; have x_t18 := x_t16.next hb5; clear x_t16; have S_t18 := S_t16.next hb5; clear S_t16; have s_t18 := s_n.next hb5; clear s_n; have Bv_t18 := Bv_t16.next hb5; clear Bv_t16; have Bw_t18 := Bw_t16.next hb5; clear Bw_t16; have hw_t18 := below_next hw_t16 hb5; have hs_t18 := hb5.size); go_wp2_with fail; refine hK.out _ _ ?_ (fun hHeld => ?_); (focus ((try dsimp only); (exact ⟨by rw [Bv_t18.cell]; rfl, by rw [Bv_t18.cell]; rfl, by rw [Bw_t18.cell]; rfl, by rw [Bw_t18.cell]; rfl⟩))); clear hK K; (try simp only [Act.put, pa, pb, pc]))
     refine tk 25 ?_
     refine tk 26 ?_
     refine wpAnyH_done (by kernel_rfl) ?_ _
     have qBv0 : w5.cell? ⟨w.heap.size, 0, none⟩ = some (.int .i64 z) := by rw [Bv_t18.cell]; rfl
     have qBv1 : w5.cell? ⟨w.heap.size, 1, none⟩ = some (.slice A l.length c) := by rw [Bv_t18.cell]; rfl
     have qBw0 : w5.cell? ⟨w.heap.size + 1, 0, none⟩ = some (.int .i64 a) := by rw [Bw_t18.cell]; rfl
     have qBw1 : w5.cell? ⟨w.heap.size + 1, 1, none⟩ = some (.slice B ws.length d) := by rw [Bw_t18.cell]; rfl
     go_wp2
     go_ret
     exact ⟨ret_bool (HW.out).symm, hw_t18⟩
   ·
    have HW : Hid (workB z l a ws = false) := Lib.hid (by unfold workB; rw [hv, hd0, decide_eq_false h1]; rfl)
    have hd1 : decide (a ≤ z) = false := decide_eq_false h1
    have qBv0 : ((w.alloc (.cells #[.int .i64 z, .slice A l.length c] 32)).alloc (.cells #[.int .i64 a, .slice B ws.length d] 25)).cell? ⟨w.heap.size, 0, none⟩ = some (.int .i64 z) := by rw [Bv_t5.cell]; rfl
    have qBv1 : ((w.alloc (.cells #[.int .i64 z, .slice A l.length c] 32)).alloc (.cells #[.int .i64 a, .slice B ws.length d] 25)).cell? ⟨w.heap.size, 1, none⟩ = some (.slice A l.length c) := by rw [Bv_t5.cell]; rfl
    have qBw0 : ((w.alloc (.cells #[.int .i64 z, .slice A l.length c] 32)).alloc (.cells #[.int .i64 a, .slice B ws.length d] 25)).cell? ⟨w.heap.size + 1, 0, none⟩ = some (.int .i64 a) := by rw [Bw_t4.cell]; rfl
    have qBw1 : ((w.alloc (.cells #[.int .i64 z, .slice A l.length c] 32)).alloc (.cells #[.int .i64 a, .slice B ws.length d] 25)).cell? ⟨w.heap.size + 1, 1, none⟩ = some (.slice B ws.length d) := by rw [Bw_t4.cell]; rfl
    go_wp2
    clear qBv0 qBv1 qBw0 qBw1
    have hb_t7 : Below ((w.alloc (.cells #[.int .i64 z, .slice A l.length c] 32)).alloc (.cells #[.int .i64 a, .slice B ws.length d] 25)).heap.size ((w.alloc (.cells #[.int .i64 z, .slice A l.length c] 32)).alloc (.cells #[.int .i64 a, .slice B ws.length d] 25)) ((w.alloc (.cells #[.int .i64 z, .slice A l.length c] 32)).alloc (.cells #[.int .i64 a, .slice B ws.length d] 25)).drew := (Below.refl _ _).drew
    have v_t8 := v_0.next hb_t7
    clear v_0
    have x_t8 := x_0.next hb_t7
    clear x_0
    have Bv_t8 := Bv_t5.next hb_t7
    clear Bv_t5
    have Bw_t8 := Bw_t4.next hb_t7
    clear Bw_t4
    have hw_t8 := below_next hw_t5 hb_t7
    have hs_t8 := hb_t7.size
    refine wp_region_held_drew (S := (fun W => W.cell? ⟨w.heap.size, 0, none⟩ = some (.int .i64 z) ∧ W.cell? ⟨w.heap.size, 1, none⟩ = some (.slice A l.length c) ∧ W.cell? ⟨w.heap.size + 1, 0, none⟩ = some (.int .i64 a) ∧ W.cell? ⟨w.heap.size + 1, 1, none⟩ = some (.slice B ws.length d))) (by kernel_rfl) ?_ (fun hHeld => ?_)
    focus ((try dsimp only); (exact ⟨by rw [Bv_t8.cell]; rfl, by rw [Bv_t8.cell]; rfl, by rw [Bw_t8.cell]; rfl, by rw [Bw_t8.cell]; rfl⟩))
    refine tk 0 ?_
    (refine rd1 1 (fun K hK => ?_); go_simp; (go_at_call 11; refine (implVersOk z A c l _ hf hc hm v_t8).mono ?_; rintro e w1 ⟨rfl, hb1⟩; rw [hv]; have v_t10 := v_t8.next hb1; clear v_t8; have x_t10 := x_t8.next hb1; clear x_t8; have Bv_t10 := Bv_t8.next hb1; clear Bv_t8; have Bw_t10 := Bw_t8.next hb1; clear Bw_t8; have hw_t10 := below_next hw_t8 hb1; have hs_t10 := hb1.size); go_wp2_with fail; refine hK.out _ _ ?_ (fun hHeld => ?_); (focus ((try dsimp only); (exact ⟨by rw [Bv_t10.cell]; rfl, by rw [Bv_t10.cell]; rfl, by rw [Bw_t10.cell]; rfl, by rw [Bw_t10.cell]; rfl⟩))); clear hK K; (try simp only [Act.put, pa, pb, pc]))
    refine tk 2 ?_
    refine tk 3 ?_
    refine tk 4 ?_
    refine tk 5 ?_
    refine tk 6 ?_
    refine tk 7 ?_
    refine tk 8 ?_
    refine tk 9 ?_
    refine tk 10 ?_
    refine tk 11 ?_
    refine tk 12 ?_
    refine tk 13 ?_
    refine tk 14 ?_
    refine ts 15 ?_
    refine ts 16 ?_
    refine ts 17 ?_
    refine tk 18 ?_
    refine tk 19 ?_
    refine ts 20 ?_
    refine ts 21 ?_
    refine ts 22 ?_
    refine ts 23 ?_
    refine ts 24 ?_
    refine tk 25 ?_
    refine tk 26 ?_
    refine wpAnyH_done (by kernel_rfl) ?_ _
    have qBv0 : w1.cell? ⟨w.heap.size, 0, none⟩ = some (.int .i64 z) := by rw [Bv_t10.cell]; rfl
    have qBv1 : w1.cell? ⟨w.heap.size, 1, none⟩ = some (.slice A l.length c) := by rw [Bv_t10.cell]; rfl
    have qBw0 : w1.cell? ⟨w.heap.size + 1, 0, none⟩ = some (.int .i64 a) := by rw [Bw_t10.cell]; rfl
    have qBw1 : w1.cell? ⟨w.heap.size + 1, 1, none⟩ = some (.slice B ws.length d) := by rw [Bw_t10.cell]; rfl
    go_wp2
    go_ret
    exact ⟨ret_bool (HW.out).symm, hw_t10⟩
  ·
   have HW : Hid (workB z l a ws = false) := Lib.hid (by unfold workB; rw [hv, decide_eq_false h0]; rfl)
   have hd0 : decide (0 ≤ a) = false := decide_eq_false h0
   have qBv0 : ((w.alloc (.cells #[.int .i64 z, .slice A l.length c] 32)).alloc (.cells #[.int .i64 a, .slice B ws.length d] 25)).cell? ⟨w.heap.size, 0, none⟩ = some (.int .i64 z) := by rw [Bv_t5.cell]; rfl
   have qBv1 : ((w.alloc (.cells #[.int .i64 z, .slice A l.length c] 32)).alloc (.cells #[.int .i64 a, .slice B ws.length d] 25)).cell? ⟨w.heap.size, 1, none⟩ = some (.slice A l.length c) := by rw [Bv_t5.cell]; rfl
   have qBw0 : ((w.alloc (.cells #[.int .i64 z, .slice A l.length c] 32)).alloc (.cells #[.int .i64 a, .slice B ws.length d] 25)).cell? ⟨w.heap.size + 1, 0, none⟩ = some (.int .i64 a) := by rw [Bw_t4.cell]; rfl
   have qBw1 : ((w.alloc (.cells #[.int .i64 z, .slice A l.length c] 32)).alloc (.cells #[.int .i64 a, .slice B ws.length d] 25)).cell? ⟨w.heap.size + 1, 1, none⟩ = some (.slice B ws.length d) := by rw [Bw_t4.cell]; rfl
   go_wp2
   clear qBv0 qBv1 qBw0 qBw1
   have hb_t7 : Below ((w.alloc (.cells #[.int .i64 z, .slice A l.length c] 32)).alloc (.cells #[.int .i64 a, .slice B ws.length d] 25)).heap.size ((w.alloc (.cells #[.int .i64 z, .slice A l.length c] 32)).alloc (.cells #[.int .i64 a, .slice B ws.length d] 25)) ((w.alloc (.cells #[.int .i64 z, .slice A l.length c] 32)).alloc (.cells #[.int .i64 a, .slice B ws.length d] 25)).drew := (Below.refl _ _).drew
   have v_t8 := v_0.next hb_t7
   clear v_0
   have x_t8 := x_0.next hb_t7
   clear x_0
   have Bv_t8 := Bv_t5.next hb_t7
   clear Bv_t5
   have Bw_t8 := Bw_t4.next hb_t7
   clear Bw_t4
   have hw_t8 := below_next hw_t5 hb_t7
   have hs_t8 := hb_t7.size
   refine wp_region_held_drew (S := (fun W => W.cell? ⟨w.heap.size, 0, none⟩ = some (.int .i64 z) ∧ W.cell? ⟨w.heap.size, 1, none⟩ = some (.slice A l.length c) ∧ W.cell? ⟨w.heap.size + 1, 0, none⟩ = some (.int .i64 a) ∧ W.cell? ⟨w.heap.size + 1, 1, none⟩ = some (.slice B ws.length d))) (by kernel_rfl) ?_ (fun hHeld => ?_)
   focus ((try dsimp only); (exact ⟨by rw [Bv_t8.cell]; rfl, by rw [Bv_t8.cell]; rfl, by rw [Bw_t8.cell]; rfl, by rw [Bw_t8.cell]; rfl⟩))
   refine tk 0 ?_
   (refine rd1 1 (fun K hK => ?_); go_simp; (go_at_call 11; refine (implVersOk z A c l _ hf hc hm v_t8).mono ?_; rintro e w1 ⟨rfl, hb1⟩; rw [hv]; have v_t10 := v_t8.next hb1; clear v_t8; have x_t10 := x_t8.next hb1; clear x_t8; have Bv_t10 := Bv_t8.next hb1; clear Bv_t8; have Bw_t10 := Bw_t8.next hb1; clear Bw_t8; have hw_t10 := below_next hw_t8 hb1; have hs_t10 := hb1.size); go_wp2_with fail; refine hK.out _ _ ?_ (fun hHeld => ?_); (focus ((try dsimp only); (exact ⟨by rw [Bv_t10.cell]; rfl, by rw [Bv_t10.cell]; rfl, by rw [Bw_t10.cell]; rfl, by rw [Bw_t10.cell]; rfl⟩))); clear hK K; (try simp only [Act.put, pa, pb, pc]))
   refine tk 2 ?_
   refine tk 3 ?_
   refine tk 4 ?_
   refine tk 5 ?_
   refine tk 6 ?_
   refine tk 7 ?_
   refine ts 8 ?_
   refine ts 9 ?_
   refine ts 10 ?_
   refine ts 11 ?_
   refine ts 12 ?_
   refine tk 13 ?_
   refine tk 14 ?_
   refine ts 15 ?_
   refine ts 16 ?_
   refine ts 17 ?_
   refine tk 18 ?_
   refine tk 19 ?_
   refine ts 20 ?_
   refine ts 21 ?_
   refine ts 22 ?_
   refine ts 23 ?_
   refine ts 24 ?_
   refine tk 25 ?_
   refine tk 26 ?_
   refine wpAnyH_done (by kernel_rfl) ?_ _
   have qBv0 : w1.cell? ⟨w.heap.size, 0, none⟩ = some (.int .i64 z) := by rw [Bv_t10.cell]; rfl
   have qBv1 : w1.cell? ⟨w.heap.size, 1, none⟩ = some (.slice A l.length c) := by rw [Bv_t10.cell]; rfl
   have qBw0 : w1.cell? ⟨w.heap.size + 1, 0, none⟩ = some (.int .i64 a) := by rw [Bw_t10.cell]; rfl
   have qBw1 : w1.cell? ⟨w.heap.size + 1, 1, none⟩ = some (.slice B ws.length d) := by rw [Bw_t10.cell]; rfl
   go_wp2
   go_ret
   exact ⟨ret_bool (HW.out).symm, hw_t10⟩
theorem implWorkOkO {v u : Value} {z a : Int} {l : List V} {ws : List X} {base base' : Nat} {w : World} (h : OwnG w base v l) (h' : OwnG w base' u ws) (hf : FitVs l) (hfx : FitXs ws) (hl : l.length ≤ 1048576) (hlx : ws.length ≤ 1048576) :
  Calls Tryz.prog 27 #[.agg #[.int .i64 z, v], .agg #[.int .i64 a, u]] w fun e w' => e = .returned (.bool (workB z l a ws)) ∧ Below w.heap.size w w' := by
 obtain ⟨A, c, rfl, h1, h2, hr⟩ := h.read
 obtain ⟨B, d, rfl, h3, h4, hr'⟩ := h'.read
 exact implWorkOk z A c l a B d ws w hf h1 h2 hl hfx h3 h4 hlx hr hr'

end Go.Proofs.YtnijgbinjbikbaaGreat
