/- The model's chapter 3: WorkPut. -/
import Derived.Test.YtnijgbinjbikbaaGreatW3b
import Derived.Test.YtnijgbinjbikbaaGreatW3c
namespace Go.Proofs.YtnijgbinjbikbaaGreat
open Go.RowKit
set_option linter.unusedVariables false
set_option maxRecDepth 100000

set_option maxHeartbeats 8000000 in
theorem specWorkPut (z : Int) (A : Option Addr) (c : Nat) (l : List V) (a : Int) (B : Option Addr) (d : Nat) (ws : List X) (x : X) (w : World) (hf : FitVs l) (hc : l.length ≤ c) (hm : c ≤ maxLen) (hl : l.length ≤ 1048576) (hfx : FitXs ws) (hd : ws.length ≤ d) (hmd : d ≤ maxLen) (hlx : ws.length ≤ 1048576) (hx1 : FitX x) (hr : RdG w w.heap.size A l) (hrx : RdG w w.heap.size B ws)  :
  Calls Tryz.prog 102 #[.agg #[.int .i64 z, .slice A l.length c], .agg #[.int .i64 a, .slice B ws.length d], .agg #[.string x.k, .int .i64 x.n, .bool x.g]] w (RetXC w (wputA z l a ws) (wputW z l a ws x) (wputC z l a ws x)) := by
 have hrO := Lib.hid hr
 have hrxO := Lib.hid hrx
 go_enter Tryz.func102, Tryz.ntmps102
 have hb_t1 := below_alloc (Below.refl _ w) (.cells #[.int .i64 z, .slice A l.length c] 32)
 have Bv_t1 := blkA w #[.int .i64 z, .slice A l.length c] 32
 have hz_t1 : (w.alloc (.cells #[.int .i64 z, .slice A l.length c] 32)).heap.size = w.heap.size + 1 := World.size_alloc _ _
 have hw_t2 := hb_t1
 have hs_t2 := hb_t1.size
 have hb_t4 := below_alloc (Below.refl _ (w.alloc (.cells #[.int .i64 z, .slice A l.length c] 32))) (.cells #[.int .i64 a, .slice B ws.length d] 25)
 have Bw_t4 := blkA (w.alloc (.cells #[.int .i64 z, .slice A l.length c] 32)) #[.int .i64 a, .slice B ws.length d] 25
 simp only [World.size_alloc] at Bw_t4
 have hz_t4 : ((w.alloc (.cells #[.int .i64 z, .slice A l.length c] 32)).alloc (.cells #[.int .i64 a, .slice B ws.length d] 25)).heap.size = (w.alloc (.cells #[.int .i64 z, .slice A l.length c] 32)).heap.size + 1 := World.size_alloc _ _
 have Bv_t5 := Bv_t1.next hb_t4
 clear Bv_t1
 have hw_t5 := below_next hw_t2 hb_t4
 have hs_t5 := hb_t4.size
 have hb_t7 := below_alloc (Below.refl _ ((w.alloc (.cells #[.int .i64 z, .slice A l.length c] 32)).alloc (.cells #[.int .i64 a, .slice B ws.length d] 25))) (.cells #[.string x.k, .int .i64 x.n, .bool x.g] 98)
 have Bx_t7 := blkA ((w.alloc (.cells #[.int .i64 z, .slice A l.length c] 32)).alloc (.cells #[.int .i64 a, .slice B ws.length d] 25)) #[.string x.k, .int .i64 x.n, .bool x.g] 98
 simp only [World.size_alloc] at Bx_t7
 have hz_t7 : (((w.alloc (.cells #[.int .i64 z, .slice A l.length c] 32)).alloc (.cells #[.int .i64 a, .slice B ws.length d] 25)).alloc (.cells #[.string x.k, .int .i64 x.n, .bool x.g] 98)).heap.size = ((w.alloc (.cells #[.int .i64 z, .slice A l.length c] 32)).alloc (.cells #[.int .i64 a, .slice B ws.length d] 25)).heap.size + 1 := World.size_alloc _ _
 have Bv_t8 := Bv_t5.next hb_t7
 clear Bv_t5
 have Bw_t8 := Bw_t4.next hb_t7
 clear Bw_t4
 have hw_t8 := below_next hw_t5 hb_t7
 have hs_t8 := hb_t7.size
 have hb_t10 := below_alloc (Below.refl _ (((w.alloc (.cells #[.int .i64 z, .slice A l.length c] 32)).alloc (.cells #[.int .i64 a, .slice B ws.length d] 25)).alloc (.cells #[.string x.k, .int .i64 x.n, .bool x.g] 98))) (.cells #[.int .i64 0, .slice none 0 0] 25)
 have Rt_t10 := blkA (((w.alloc (.cells #[.int .i64 z, .slice A l.length c] 32)).alloc (.cells #[.int .i64 a, .slice B ws.length d] 25)).alloc (.cells #[.string x.k, .int .i64 x.n, .bool x.g] 98)) #[.int .i64 0, .slice none 0 0] 25
 simp only [World.size_alloc] at Rt_t10
 have hz_t10 : ((((w.alloc (.cells #[.int .i64 z, .slice A l.length c] 32)).alloc (.cells #[.int .i64 a, .slice B ws.length d] 25)).alloc (.cells #[.string x.k, .int .i64 x.n, .bool x.g] 98)).alloc (.cells #[.int .i64 0, .slice none 0 0] 25)).heap.size = (((w.alloc (.cells #[.int .i64 z, .slice A l.length c] 32)).alloc (.cells #[.int .i64 a, .slice B ws.length d] 25)).alloc (.cells #[.string x.k, .int .i64 x.n, .bool x.g] 98)).heap.size + 1 := World.size_alloc _ _
 have Bv_t11 := Bv_t8.next hb_t10
 clear Bv_t8
 have Bw_t11 := Bw_t8.next hb_t10
 clear Bw_t8
 have Bx_t11 := Bx_t7.next hb_t10
 clear Bx_t7
 have hw_t11 := below_next hw_t8 hb_t10
 have hs_t11 := hb_t10.size
 have v_0 := hr.next hw_t11
 have x_0 := hrx.next hw_t11
 cases hk : workB z l a ws
 ·
  have HE : Hid (wputC z l a ws x = 1 ∧ wputA z l a ws = 0 ∧ wputW z l a ws x = []) := Lib.hid (by unfold wputA wputW wputC; rw [hk]; exact ⟨rfl, rfl, rfl⟩)
  have qBv0 : ((((w.alloc (.cells #[.int .i64 z, .slice A l.length c] 32)).alloc (.cells #[.int .i64 a, .slice B ws.length d] 25)).alloc (.cells #[.string x.k, .int .i64 x.n, .bool x.g] 98)).alloc (.cells #[.int .i64 0, .slice none 0 0] 25)).cell? ⟨w.heap.size, 0, none⟩ = some (.int .i64 z) := by rw [Bv_t11.cell]; rfl
  have qBv1 : ((((w.alloc (.cells #[.int .i64 z, .slice A l.length c] 32)).alloc (.cells #[.int .i64 a, .slice B ws.length d] 25)).alloc (.cells #[.string x.k, .int .i64 x.n, .bool x.g] 98)).alloc (.cells #[.int .i64 0, .slice none 0 0] 25)).cell? ⟨w.heap.size, 1, none⟩ = some (.slice A l.length c) := by rw [Bv_t11.cell]; rfl
  have qBw0 : ((((w.alloc (.cells #[.int .i64 z, .slice A l.length c] 32)).alloc (.cells #[.int .i64 a, .slice B ws.length d] 25)).alloc (.cells #[.string x.k, .int .i64 x.n, .bool x.g] 98)).alloc (.cells #[.int .i64 0, .slice none 0 0] 25)).cell? ⟨w.heap.size + 1, 0, none⟩ = some (.int .i64 a) := by rw [Bw_t11.cell]; rfl
  have qBw1 : ((((w.alloc (.cells #[.int .i64 z, .slice A l.length c] 32)).alloc (.cells #[.int .i64 a, .slice B ws.length d] 25)).alloc (.cells #[.string x.k, .int .i64 x.n, .bool x.g] 98)).alloc (.cells #[.int .i64 0, .slice none 0 0] 25)).cell? ⟨w.heap.size + 1, 1, none⟩ = some (.slice B ws.length d) := by rw [Bw_t11.cell]; rfl
  have qBx0 : ((((w.alloc (.cells #[.int .i64 z, .slice A l.length c] 32)).alloc (.cells #[.int .i64 a, .slice B ws.length d] 25)).alloc (.cells #[.string x.k, .int .i64 x.n, .bool x.g] 98)).alloc (.cells #[.int .i64 0, .slice none 0 0] 25)).cell? ⟨w.heap.size + 2, 0, none⟩ = some (.string x.k) := by rw [Bx_t11.cell]; rfl
  have qBx1 : ((((w.alloc (.cells #[.int .i64 z, .slice A l.length c] 32)).alloc (.cells #[.int .i64 a, .slice B ws.length d] 25)).alloc (.cells #[.string x.k, .int .i64 x.n, .bool x.g] 98)).alloc (.cells #[.int .i64 0, .slice none 0 0] 25)).cell? ⟨w.heap.size + 2, 1, none⟩ = some (.int .i64 x.n) := by rw [Bx_t11.cell]; rfl
  have qBx2 : ((((w.alloc (.cells #[.int .i64 z, .slice A l.length c] 32)).alloc (.cells #[.int .i64 a, .slice B ws.length d] 25)).alloc (.cells #[.string x.k, .int .i64 x.n, .bool x.g] 98)).alloc (.cells #[.int .i64 0, .slice none 0 0] 25)).cell? ⟨w.heap.size + 2, 2, none⟩ = some (.bool x.g) := by rw [Bx_t11.cell]; rfl
  have qRt0 : ((((w.alloc (.cells #[.int .i64 z, .slice A l.length c] 32)).alloc (.cells #[.int .i64 a, .slice B ws.length d] 25)).alloc (.cells #[.string x.k, .int .i64 x.n, .bool x.g] 98)).alloc (.cells #[.int .i64 0, .slice none 0 0] 25)).cell? ⟨w.heap.size + 3, 0, none⟩ = some (.int .i64 0) := by rw [Rt_t10.cell]; rfl
  have qRt1 : ((((w.alloc (.cells #[.int .i64 z, .slice A l.length c] 32)).alloc (.cells #[.int .i64 a, .slice B ws.length d] 25)).alloc (.cells #[.string x.k, .int .i64 x.n, .bool x.g] 98)).alloc (.cells #[.int .i64 0, .slice none 0 0] 25)).cell? ⟨w.heap.size + 3, 1, none⟩ = some (.slice none 0 0) := by rw [Rt_t10.cell]; rfl
  go_wp2_with fail
  clear qBv0 qBv1 qBw0 qBw1 qBx0 qBx1 qBx2 qRt0 qRt1
  refine (specWorkOk z A c l a B d ws _ hf hc hm hl hfx hd hmd hlx v_0 x_0).mono ?_
  rintro e w1 ⟨rfl, hb1⟩
  rw [hk]
  have v_t13 := v_0.next hb1
  clear v_0
  have x_t13 := x_0.next hb1
  clear x_0
  have Bv_t13 := Bv_t11.next hb1
  clear Bv_t11
  have Bw_t13 := Bw_t11.next hb1
  clear Bw_t11
  have Bx_t13 := Bx_t11.next hb1
  clear Bx_t11
  have Rt_t13 := Rt_t10.next hb1
  clear Rt_t10
  have hw_t13 := below_next hw_t11 hb1
  have hs_t13 := hb1.size
  have qBv0 : w1.cell? ⟨w.heap.size, 0, none⟩ = some (.int .i64 z) := by rw [Bv_t13.cell]; rfl
  have qBv1 : w1.cell? ⟨w.heap.size, 1, none⟩ = some (.slice A l.length c) := by rw [Bv_t13.cell]; rfl
  have qBw0 : w1.cell? ⟨w.heap.size + 1, 0, none⟩ = some (.int .i64 a) := by rw [Bw_t13.cell]; rfl
  have qBw1 : w1.cell? ⟨w.heap.size + 1, 1, none⟩ = some (.slice B ws.length d) := by rw [Bw_t13.cell]; rfl
  have qBx0 : w1.cell? ⟨w.heap.size + 2, 0, none⟩ = some (.string x.k) := by rw [Bx_t13.cell]; rfl
  have qBx1 : w1.cell? ⟨w.heap.size + 2, 1, none⟩ = some (.int .i64 x.n) := by rw [Bx_t13.cell]; rfl
  have qBx2 : w1.cell? ⟨w.heap.size + 2, 2, none⟩ = some (.bool x.g) := by rw [Bx_t13.cell]; rfl
  have qRt0 : w1.cell? ⟨w.heap.size + 3, 0, none⟩ = some (.int .i64 0) := by rw [Rt_t13.cell]; rfl
  have qRt1 : w1.cell? ⟨w.heap.size + 3, 1, none⟩ = some (.slice none 0 0) := by rw [Rt_t13.cell]; rfl
  have d0 := qRt0
  have d1 := qRt1
  have fz0 := Rt_t13.free 0
  have fz1 := Rt_t13.free 1
  go_wp2
  refine bodyPost_ret (v := .tuple #[.agg #[.int .i64 0, .slice none 0 0], .int .i64 1]) (by simp [results, Tryz.results102, go_sem, d0, d1]) rfl ?_
  refine ⟨.slice none 0 0, (by first | (rw [HE.out.1, HE.out.2.1]; done) | (rw [HE.out.1, HE.out.2.1]; rfl)), ?_, ?_⟩
  ·
   rw [HE.out.2.2]; exact OwnG.nil _ _
  ·
   exact (hw_t13.setCell (show w.heap.size ≤ w.heap.size + 3 from by omega) _).setCell (show w.heap.size ≤ w.heap.size + 3 from by omega) _
 ·
  have hP := workB_iff.1 hk
  have hlw := hP.wr.len
  have hll := hP.vers.len
  clear hP
  have HA : Hid (wputA z l a ws = a) := Lib.hid (by unfold wputA; rw [hk]; rfl)
  have qBv0 : ((((w.alloc (.cells #[.int .i64 z, .slice A l.length c] 32)).alloc (.cells #[.int .i64 a, .slice B ws.length d] 25)).alloc (.cells #[.string x.k, .int .i64 x.n, .bool x.g] 98)).alloc (.cells #[.int .i64 0, .slice none 0 0] 25)).cell? ⟨w.heap.size, 0, none⟩ = some (.int .i64 z) := by rw [Bv_t11.cell]; rfl
  have qBv1 : ((((w.alloc (.cells #[.int .i64 z, .slice A l.length c] 32)).alloc (.cells #[.int .i64 a, .slice B ws.length d] 25)).alloc (.cells #[.string x.k, .int .i64 x.n, .bool x.g] 98)).alloc (.cells #[.int .i64 0, .slice none 0 0] 25)).cell? ⟨w.heap.size, 1, none⟩ = some (.slice A l.length c) := by rw [Bv_t11.cell]; rfl
  have qBw0 : ((((w.alloc (.cells #[.int .i64 z, .slice A l.length c] 32)).alloc (.cells #[.int .i64 a, .slice B ws.length d] 25)).alloc (.cells #[.string x.k, .int .i64 x.n, .bool x.g] 98)).alloc (.cells #[.int .i64 0, .slice none 0 0] 25)).cell? ⟨w.heap.size + 1, 0, none⟩ = some (.int .i64 a) := by rw [Bw_t11.cell]; rfl
  have qBw1 : ((((w.alloc (.cells #[.int .i64 z, .slice A l.length c] 32)).alloc (.cells #[.int .i64 a, .slice B ws.length d] 25)).alloc (.cells #[.string x.k, .int .i64 x.n, .bool x.g] 98)).alloc (.cells #[.int .i64 0, .slice none 0 0] 25)).cell? ⟨w.heap.size + 1, 1, none⟩ = some (.slice B ws.length d) := by rw [Bw_t11.cell]; rfl
  have qBx0 : ((((w.alloc (.cells #[.int .i64 z, .slice A l.length c] 32)).alloc (.cells #[.int .i64 a, .slice B ws.length d] 25)).alloc (.cells #[.string x.k, .int .i64 x.n, .bool x.g] 98)).alloc (.cells #[.int .i64 0, .slice none 0 0] 25)).cell? ⟨w.heap.size + 2, 0, none⟩ = some (.string x.k) := by rw [Bx_t11.cell]; rfl
  have qBx1 : ((((w.alloc (.cells #[.int .i64 z, .slice A l.length c] 32)).alloc (.cells #[.int .i64 a, .slice B ws.length d] 25)).alloc (.cells #[.string x.k, .int .i64 x.n, .bool x.g] 98)).alloc (.cells #[.int .i64 0, .slice none 0 0] 25)).cell? ⟨w.heap.size + 2, 1, none⟩ = some (.int .i64 x.n) := by rw [Bx_t11.cell]; rfl
  have qBx2 : ((((w.alloc (.cells #[.int .i64 z, .slice A l.length c] 32)).alloc (.cells #[.int .i64 a, .slice B ws.length d] 25)).alloc (.cells #[.string x.k, .int .i64 x.n, .bool x.g] 98)).alloc (.cells #[.int .i64 0, .slice none 0 0] 25)).cell? ⟨w.heap.size + 2, 2, none⟩ = some (.bool x.g) := by rw [Bx_t11.cell]; rfl
  have qRt0 : ((((w.alloc (.cells #[.int .i64 z, .slice A l.length c] 32)).alloc (.cells #[.int .i64 a, .slice B ws.length d] 25)).alloc (.cells #[.string x.k, .int .i64 x.n, .bool x.g] 98)).alloc (.cells #[.int .i64 0, .slice none 0 0] 25)).cell? ⟨w.heap.size + 3, 0, none⟩ = some (.int .i64 0) := by rw [Rt_t10.cell]; rfl
  have qRt1 : ((((w.alloc (.cells #[.int .i64 z, .slice A l.length c] 32)).alloc (.cells #[.int .i64 a, .slice B ws.length d] 25)).alloc (.cells #[.string x.k, .int .i64 x.n, .bool x.g] 98)).alloc (.cells #[.int .i64 0, .slice none 0 0] 25)).cell? ⟨w.heap.size + 3, 1, none⟩ = some (.slice none 0 0) := by rw [Rt_t10.cell]; rfl
  go_wp2_with fail
  clear qBv0 qBv1 qBw0 qBw1 qBx0 qBx1 qBx2 qRt0 qRt1
  refine (specWorkOk z A c l a B d ws _ hf hc hm hl hfx hd hmd hlx v_0 x_0).mono ?_
  rintro e w1 ⟨rfl, hb1⟩
  rw [hk]
  have v_t13 := v_0.next hb1
  clear v_0
  have x_t13 := x_0.next hb1
  clear x_0
  have Bv_t13 := Bv_t11.next hb1
  clear Bv_t11
  have Bw_t13 := Bw_t11.next hb1
  clear Bw_t11
  have Bx_t13 := Bx_t11.next hb1
  clear Bx_t11
  have Rt_t13 := Rt_t10.next hb1
  clear Rt_t10
  have hw_t13 := below_next hw_t11 hb1
  have hs_t13 := hb1.size
  have rBv0 : w1.cell? ⟨w.heap.size, 0, none⟩ = some (.int .i64 z) := by rw [Bv_t13.cell]; rfl
  have rBv1 : w1.cell? ⟨w.heap.size, 1, none⟩ = some (.slice A l.length c) := by rw [Bv_t13.cell]; rfl
  have rBw0 : w1.cell? ⟨w.heap.size + 1, 0, none⟩ = some (.int .i64 a) := by rw [Bw_t13.cell]; rfl
  have rBw1 : w1.cell? ⟨w.heap.size + 1, 1, none⟩ = some (.slice B ws.length d) := by rw [Bw_t13.cell]; rfl
  have rBx0 : w1.cell? ⟨w.heap.size + 2, 0, none⟩ = some (.string x.k) := by rw [Bx_t13.cell]; rfl
  have rBx1 : w1.cell? ⟨w.heap.size + 2, 1, none⟩ = some (.int .i64 x.n) := by rw [Bx_t13.cell]; rfl
  have rBx2 : w1.cell? ⟨w.heap.size + 2, 2, none⟩ = some (.bool x.g) := by rw [Bx_t13.cell]; rfl
  have rRt0 : w1.cell? ⟨w.heap.size + 3, 0, none⟩ = some (.int .i64 0) := by rw [Rt_t13.cell]; rfl
  have rRt1 : w1.cell? ⟨w.heap.size + 3, 1, none⟩ = some (.slice none 0 0) := by rw [Rt_t13.cell]; rfl
  have hone := rdOneX w1 x 98
  have hb_t15 := below_alloc (Below.refl _ w1) (.cells #[.string x.k, .int .i64 x.n, .bool x.g] 98)
  have Bo_t15 := blkA w1 #[.string x.k, .int .i64 x.n, .bool x.g] 98
  have hz_t15 : (w1.alloc (.cells #[.string x.k, .int .i64 x.n, .bool x.g] 98)).heap.size = w1.heap.size + 1 := World.size_alloc _ _
  have v_t16 := v_t13.next hb_t15
  clear v_t13
  have x_t16 := x_t13.next hb_t15
  clear x_t13
  have Bv_t16 := Bv_t13.next hb_t15
  clear Bv_t13
  have Bw_t16 := Bw_t13.next hb_t15
  clear Bw_t13
  have Bx_t16 := Bx_t13.next hb_t15
  clear Bx_t13
  have Rt_t16 := Rt_t13.next hb_t15
  clear Rt_t13
  have hw_t16 := below_next hw_t13 hb_t15
  have hs_t16 := hb_t15.size
  have hfx1 : FitXs [x] := fun r hr => by rw [List.mem_singleton] at hr; subst hr; exact hx1
  cases hw1 : writesB [x]
  ·
   have HE : Hid (wputC z l a ws x = 1 ∧ wputA z l a ws = a ∧ wputW z l a ws x = ws) := Lib.hid (by
    have hC : wputC z l a ws x = 1 := by unfold wputC; rw [hk, hw1]; rfl
    exact ⟨hC, HA.out, by unfold wputW; rw [hk, hC]; rfl⟩)
   have qBv0 : (w1.alloc (.cells #[.string x.k, .int .i64 x.n, .bool x.g] 98)).cell? ⟨w.heap.size, 0, none⟩ = some (.int .i64 z) := by rw [Bv_t16.cell]; rfl
   have qBv1 : (w1.alloc (.cells #[.string x.k, .int .i64 x.n, .bool x.g] 98)).cell? ⟨w.heap.size, 1, none⟩ = some (.slice A l.length c) := by rw [Bv_t16.cell]; rfl
   have qBw0 : (w1.alloc (.cells #[.string x.k, .int .i64 x.n, .bool x.g] 98)).cell? ⟨w.heap.size + 1, 0, none⟩ = some (.int .i64 a) := by rw [Bw_t16.cell]; rfl
   have qBw1 : (w1.alloc (.cells #[.string x.k, .int .i64 x.n, .bool x.g] 98)).cell? ⟨w.heap.size + 1, 1, none⟩ = some (.slice B ws.length d) := by rw [Bw_t16.cell]; rfl
   have qBx0 : (w1.alloc (.cells #[.string x.k, .int .i64 x.n, .bool x.g] 98)).cell? ⟨w.heap.size + 2, 0, none⟩ = some (.string x.k) := by rw [Bx_t16.cell]; rfl
   have qBx1 : (w1.alloc (.cells #[.string x.k, .int .i64 x.n, .bool x.g] 98)).cell? ⟨w.heap.size + 2, 1, none⟩ = some (.int .i64 x.n) := by rw [Bx_t16.cell]; rfl
   have qBx2 : (w1.alloc (.cells #[.string x.k, .int .i64 x.n, .bool x.g] 98)).cell? ⟨w.heap.size + 2, 2, none⟩ = some (.bool x.g) := by rw [Bx_t16.cell]; rfl
   have qRt0 : (w1.alloc (.cells #[.string x.k, .int .i64 x.n, .bool x.g] 98)).cell? ⟨w.heap.size + 3, 0, none⟩ = some (.int .i64 0) := by rw [Rt_t16.cell]; rfl
   have qRt1 : (w1.alloc (.cells #[.string x.k, .int .i64 x.n, .bool x.g] 98)).cell? ⟨w.heap.size + 3, 1, none⟩ = some (.slice none 0 0) := by rw [Rt_t16.cell]; rfl
   have qBo0 : (w1.alloc (.cells #[.string x.k, .int .i64 x.n, .bool x.g] 98)).cell? ⟨w1.heap.size, 0, none⟩ = some (.string x.k) := by rw [Bo_t15.cell]; rfl
   have qBo1 : (w1.alloc (.cells #[.string x.k, .int .i64 x.n, .bool x.g] 98)).cell? ⟨w1.heap.size, 1, none⟩ = some (.int .i64 x.n) := by rw [Bo_t15.cell]; rfl
   have qBo2 : (w1.alloc (.cells #[.string x.k, .int .i64 x.n, .bool x.g] 98)).cell? ⟨w1.heap.size, 2, none⟩ = some (.bool x.g) := by rw [Bo_t15.cell]; rfl
   go_wp2_with fail
   clear qBv0 qBv1 qBw0 qBw1 qBx0 qBx1 qBx2 qRt0 qRt1 qBo0 qBo1 qBo2
   refine (specWritesOk (some ⟨w1.heap.size, 0, none⟩) 1 [x] _ hfx1 (by simp) (by unfold maxLen; omega) hone).mono ?_
   rintro e w2 ⟨rfl, hb2⟩
   rw [hw1]
   have v_t18 := v_t16.next hb2
   clear v_t16
   have x_t18 := x_t16.next hb2
   clear x_t16
   have one_t18 := hone.next hb2
   clear hone
   have Bv_t18 := Bv_t16.next hb2
   clear Bv_t16
   have Bw_t18 := Bw_t16.next hb2
   clear Bw_t16
   have Bx_t18 := Bx_t16.next hb2
   clear Bx_t16
   have Rt_t18 := Rt_t16.next hb2
   clear Rt_t16
   have Bo_t18 := Bo_t15.next hb2
   clear Bo_t15
   have hw_t18 := below_next hw_t16 hb2
   have hs_t18 := hb2.size
   clear one_t18
   have hgl_t20 := Rt_t18.lt
   have qBv0 : w2.cell? ⟨w.heap.size, 0, none⟩ = some (.int .i64 z) := by rw [Bv_t18.cell]; rfl
   have qBv1 : w2.cell? ⟨w.heap.size, 1, none⟩ = some (.slice A l.length c) := by rw [Bv_t18.cell]; rfl
   have qBw0 : w2.cell? ⟨w.heap.size + 1, 0, none⟩ = some (.int .i64 a) := by rw [Bw_t18.cell]; rfl
   have qBw1 : w2.cell? ⟨w.heap.size + 1, 1, none⟩ = some (.slice B ws.length d) := by rw [Bw_t18.cell]; rfl
   have qBx0 : w2.cell? ⟨w.heap.size + 2, 0, none⟩ = some (.string x.k) := by rw [Bx_t18.cell]; rfl
   have qBx1 : w2.cell? ⟨w.heap.size + 2, 1, none⟩ = some (.int .i64 x.n) := by rw [Bx_t18.cell]; rfl
   have qBx2 : w2.cell? ⟨w.heap.size + 2, 2, none⟩ = some (.bool x.g) := by rw [Bx_t18.cell]; rfl
   have qRt0 : w2.cell? ⟨w.heap.size + 3, 0, none⟩ = some (.int .i64 0) := by rw [Rt_t18.cell]; rfl
   have qRt1 : w2.cell? ⟨w.heap.size + 3, 1, none⟩ = some (.slice none 0 0) := by rw [Rt_t18.cell]; rfl
   have qBo0 : w2.cell? ⟨w1.heap.size, 0, none⟩ = some (.string x.k) := by rw [Bo_t18.cell]; rfl
   have qBo1 : w2.cell? ⟨w1.heap.size, 1, none⟩ = some (.int .i64 x.n) := by rw [Bo_t18.cell]; rfl
   have qBo2 : w2.cell? ⟨w1.heap.size, 2, none⟩ = some (.bool x.g) := by rw [Bo_t18.cell]; rfl
   go_wp2_with fail
   clear qBv0 qBv1 qBw0 qBw1 qBx0 qBx1 qBx2 qRt0 qRt1 qBo0 qBo1 qBo2
   refine (l3Copy_c a B d ws _ (by omega) x_t18).mono ?_
   rintro e w3 ⟨Vy, rfl, y_n, hb3⟩
   have HNy : Hid (∀ k, Vy.ownBlock = some k → k ≠ w.heap.size + 3) := Lib.hid (fun k hk => by have := (y_n.block_lt hk).1; omega)
   obtain ⟨ady, cy, rfl, ry1_y, ry2_y, ry3_y⟩ := y_n.read
   clear ry1_y ry2_y ry3_y
   have v_t21 := v_t18.next hb3
   clear v_t18
   have x_t21 := x_t18.next hb3
   clear x_t18
   have Bv_t21 := Bv_t18.next hb3
   clear Bv_t18
   have Bw_t21 := Bw_t18.next hb3
   clear Bw_t18
   have Bx_t21 := Bx_t18.next hb3
   clear Bx_t18
   have Rt_t21 := Rt_t18.next hb3
   clear Rt_t18
   have Bo_t21 := Bo_t18.next hb3
   clear Bo_t18
   have hw_t21 := below_next hw_t18 hb3
   have hs_t21 := hb3.size
   have qBv0 : w3.cell? ⟨w.heap.size, 0, none⟩ = some (.int .i64 z) := by rw [Bv_t21.cell]; rfl
   have qBv1 : w3.cell? ⟨w.heap.size, 1, none⟩ = some (.slice A l.length c) := by rw [Bv_t21.cell]; rfl
   have qBw0 : w3.cell? ⟨w.heap.size + 1, 0, none⟩ = some (.int .i64 a) := by rw [Bw_t21.cell]; rfl
   have qBw1 : w3.cell? ⟨w.heap.size + 1, 1, none⟩ = some (.slice B ws.length d) := by rw [Bw_t21.cell]; rfl
   have qBx0 : w3.cell? ⟨w.heap.size + 2, 0, none⟩ = some (.string x.k) := by rw [Bx_t21.cell]; rfl
   have qBx1 : w3.cell? ⟨w.heap.size + 2, 1, none⟩ = some (.int .i64 x.n) := by rw [Bx_t21.cell]; rfl
   have qBx2 : w3.cell? ⟨w.heap.size + 2, 2, none⟩ = some (.bool x.g) := by rw [Bx_t21.cell]; rfl
   have qRt0 : w3.cell? ⟨w.heap.size + 3, 0, none⟩ = some (.int .i64 0) := by rw [Rt_t21.cell]; rfl
   have qRt1 : w3.cell? ⟨w.heap.size + 3, 1, none⟩ = some (.slice none 0 0) := by rw [Rt_t21.cell]; rfl
   have qBo0 : w3.cell? ⟨w1.heap.size, 0, none⟩ = some (.string x.k) := by rw [Bo_t21.cell]; rfl
   have qBo1 : w3.cell? ⟨w1.heap.size, 1, none⟩ = some (.int .i64 x.n) := by rw [Bo_t21.cell]; rfl
   have qBo2 : w3.cell? ⟨w1.heap.size, 2, none⟩ = some (.bool x.g) := by rw [Bo_t21.cell]; rfl
   have d0 := qRt0
   have d1 := qRt1
   have fz0 := Rt_t21.free 0
   have fz1 := Rt_t21.free 1
   go_wp2
   refine bodyPost_ret (v := .tuple #[.agg #[.int .i64 a, .slice ady ws.length cy], .int .i64 1]) (by simp [results, Tryz.results102, go_sem, d0, d1]) rfl ?_
   refine ⟨.slice ady ws.length cy, (by first | (rw [HE.out.1, HE.out.2.1]; done) | (rw [HE.out.1, HE.out.2.1]; rfl)), ?_, ?_⟩
   ·
    have hne : ∀ k, (.slice ady ws.length cy : Value).ownBlock = some k → k ≠ w.heap.size + 3 := HNy.out
    rw [HE.out.2.2]
    exact ((y_n.setCell (a := ⟨w.heap.size + 3, 0, none⟩) hne _).setCell (a := ⟨w.heap.size + 3, 1, none⟩) hne _).low (by omega)
   ·
    exact (hw_t21.setCell (show w.heap.size ≤ w.heap.size + 3 from by omega) _).setCell (show w.heap.size ≤ w.heap.size + 3 from by omega) _
  ·
   obtain ⟨L0, HL0⟩ : ∃ L0, Hid (lastL l x.k = L0) := ⟨_, Lib.hid rfl⟩
   have qBv0 : (w1.alloc (.cells #[.string x.k, .int .i64 x.n, .bool x.g] 98)).cell? ⟨w.heap.size, 0, none⟩ = some (.int .i64 z) := by rw [Bv_t16.cell]; rfl
   have qBv1 : (w1.alloc (.cells #[.string x.k, .int .i64 x.n, .bool x.g] 98)).cell? ⟨w.heap.size, 1, none⟩ = some (.slice A l.length c) := by rw [Bv_t16.cell]; rfl
   have qBw0 : (w1.alloc (.cells #[.string x.k, .int .i64 x.n, .bool x.g] 98)).cell? ⟨w.heap.size + 1, 0, none⟩ = some (.int .i64 a) := by rw [Bw_t16.cell]; rfl
   have qBw1 : (w1.alloc (.cells #[.string x.k, .int .i64 x.n, .bool x.g] 98)).cell? ⟨w.heap.size + 1, 1, none⟩ = some (.slice B ws.length d) := by rw [Bw_t16.cell]; rfl
   have qBx0 : (w1.alloc (.cells #[.string x.k, .int .i64 x.n, .bool x.g] 98)).cell? ⟨w.heap.size + 2, 0, none⟩ = some (.string x.k) := by rw [Bx_t16.cell]; rfl
   have qBx1 : (w1.alloc (.cells #[.string x.k, .int .i64 x.n, .bool x.g] 98)).cell? ⟨w.heap.size + 2, 1, none⟩ = some (.int .i64 x.n) := by rw [Bx_t16.cell]; rfl
   have qBx2 : (w1.alloc (.cells #[.string x.k, .int .i64 x.n, .bool x.g] 98)).cell? ⟨w.heap.size + 2, 2, none⟩ = some (.bool x.g) := by rw [Bx_t16.cell]; rfl
   have qRt0 : (w1.alloc (.cells #[.string x.k, .int .i64 x.n, .bool x.g] 98)).cell? ⟨w.heap.size + 3, 0, none⟩ = some (.int .i64 0) := by rw [Rt_t16.cell]; rfl
   have qRt1 : (w1.alloc (.cells #[.string x.k, .int .i64 x.n, .bool x.g] 98)).cell? ⟨w.heap.size + 3, 1, none⟩ = some (.slice none 0 0) := by rw [Rt_t16.cell]; rfl
   have qBo0 : (w1.alloc (.cells #[.string x.k, .int .i64 x.n, .bool x.g] 98)).cell? ⟨w1.heap.size, 0, none⟩ = some (.string x.k) := by rw [Bo_t15.cell]; rfl
   have qBo1 : (w1.alloc (.cells #[.string x.k, .int .i64 x.n, .bool x.g] 98)).cell? ⟨w1.heap.size, 1, none⟩ = some (.int .i64 x.n) := by rw [Bo_t15.cell]; rfl
   have qBo2 : (w1.alloc (.cells #[.string x.k, .int .i64 x.n, .bool x.g] 98)).cell? ⟨w1.heap.size, 2, none⟩ = some (.bool x.g) := by rw [Bo_t15.cell]; rfl
   go_wp2_with fail
   clear qBv0 qBv1 qBw0 qBw1 qBx0 qBx1 qBx2 qRt0 qRt1 qBo0 qBo1 qBo2
   refine (specWritesOk (some ⟨w1.heap.size, 0, none⟩) 1 [x] _ hfx1 (by simp) (by unfold maxLen; omega) hone).mono ?_
   rintro e w2 ⟨rfl, hb2⟩
   rw [hw1]
   have v_t18 := v_t16.next hb2
   clear v_t16
   have x_t18 := x_t16.next hb2
   clear x_t16
   have one_t18 := hone.next hb2
   clear hone
   have Bv_t18 := Bv_t16.next hb2
   clear Bv_t16
   have Bw_t18 := Bw_t16.next hb2
   clear Bw_t16
   have Bx_t18 := Bx_t16.next hb2
   clear Bx_t16
   have Rt_t18 := Rt_t16.next hb2
   clear Rt_t16
   have Bo_t18 := Bo_t15.next hb2
   clear Bo_t15
   have hw_t18 := below_next hw_t16 hb2
   have hs_t18 := hb2.size
   clear one_t18
   by_cases hlate : a < L0
   ·
    have hdl : decide (a < L0) = true := decide_eq_true hlate
    have HE : Hid (wputC z l a ws x = 2 ∧ wputA z l a ws = a ∧ wputW z l a ws x = ws) := Lib.hid (by
     have hC : wputC z l a ws x = 2 := by unfold wputC; rw [hk, hw1, HL0.out, if_pos rfl, if_pos rfl, if_pos hlate]
     exact ⟨hC, HA.out, by unfold wputW; rw [hk, hC]; rfl⟩)
    have qBv0 : w2.cell? ⟨w.heap.size, 0, none⟩ = some (.int .i64 z) := by rw [Bv_t18.cell]; rfl
    have qBv1 : w2.cell? ⟨w.heap.size, 1, none⟩ = some (.slice A l.length c) := by rw [Bv_t18.cell]; rfl
    have qBw0 : w2.cell? ⟨w.heap.size + 1, 0, none⟩ = some (.int .i64 a) := by rw [Bw_t18.cell]; rfl
    have qBw1 : w2.cell? ⟨w.heap.size + 1, 1, none⟩ = some (.slice B ws.length d) := by rw [Bw_t18.cell]; rfl
    have qBx0 : w2.cell? ⟨w.heap.size + 2, 0, none⟩ = some (.string x.k) := by rw [Bx_t18.cell]; rfl
    have qBx1 : w2.cell? ⟨w.heap.size + 2, 1, none⟩ = some (.int .i64 x.n) := by rw [Bx_t18.cell]; rfl
    have qBx2 : w2.cell? ⟨w.heap.size + 2, 2, none⟩ = some (.bool x.g) := by rw [Bx_t18.cell]; rfl
    have qRt0 : w2.cell? ⟨w.heap.size + 3, 0, none⟩ = some (.int .i64 0) := by rw [Rt_t18.cell]; rfl
    have qRt1 : w2.cell? ⟨w.heap.size + 3, 1, none⟩ = some (.slice none 0 0) := by rw [Rt_t18.cell]; rfl
    go_wp2
    clear qBv0 qBv1 qBw0 qBw1 qBx0 qBx1 qBx2 qRt0 qRt1
    have hb_t20 : Below w2.heap.size w2 w2.drew := (Below.refl _ _).drew
    have v_t21 := v_t18.next hb_t20
    clear v_t18
    have x_t21 := x_t18.next hb_t20
    clear x_t18
    have Bv_t21 := Bv_t18.next hb_t20
    clear Bv_t18
    have Bw_t21 := Bw_t18.next hb_t20
    clear Bw_t18
    have Bx_t21 := Bx_t18.next hb_t20
    clear Bx_t18
    have Rt_t21 := Rt_t18.next hb_t20
    clear Rt_t18
    have hw_t21 := below_next hw_t18 hb_t20
    have hs_t21 := hb_t20.size
    refine wp_region_held_drew (S := (fun W => W.cell? ⟨w.heap.size, 0, none⟩ = some (.int .i64 z) ∧ W.cell? ⟨w.heap.size, 1, none⟩ = some (.slice A l.length c) ∧ W.cell? ⟨w.heap.size + 1, 0, none⟩ = some (.int .i64 a) ∧ W.cell? ⟨w.heap.size + 1, 1, none⟩ = some (.slice B ws.length d) ∧ W.cell? ⟨w.heap.size + 2, 0, none⟩ = some (.string x.k) ∧ W.cell? ⟨w.heap.size + 2, 1, none⟩ = some (.int .i64 x.n) ∧ W.cell? ⟨w.heap.size + 2, 2, none⟩ = some (.bool x.g) ∧ W.cell? ⟨w.heap.size + 3, 0, none⟩ = some (.int .i64 0) ∧ W.cell? ⟨w.heap.size + 3, 1, none⟩ = some (.slice none 0 0))) (by kernel_rfl) ?_ (fun hHeld => ?_)
    focus ((try dsimp only); (exact ⟨by rw [Bv_t21.cell]; rfl, by rw [Bv_t21.cell]; rfl, by rw [Bw_t21.cell]; rfl, by rw [Bw_t21.cell]; rfl, by rw [Bx_t21.cell]; rfl, by rw [Bx_t21.cell]; rfl, by rw [Bx_t21.cell]; rfl, by rw [Rt_t21.cell]; rfl, by rw [Rt_t21.cell]; rfl⟩))
    refine tk 0 ?_
    refine tk 1 ?_
    refine tk 2 ?_
    refine tk 4 ?_
    refine tk 5 ?_
    (refine rd1 3 (fun K hK => ?_); go_simp; (go_at_call 117; refine (specLast z A c l x.k _ hl v_t21).mono ?_; rintro e w3 ⟨rfl, hb3⟩; rw [HL0.out]; have v_t23 := v_t21.next hb3; clear v_t21; have x_t23 := x_t21.next hb3; clear x_t21; have Bv_t23 := Bv_t21.next hb3; clear Bv_t21; have Bw_t23 := Bw_t21.next hb3; clear Bw_t21; have Bx_t23 := Bx_t21.next hb3; clear Bx_t21; have Rt_t23 := Rt_t21.next hb3; clear Rt_t21; have hw_t23 := below_next hw_t21 hb3; have hs_t23 := hb3.size); go_wp2_with fail; refine hK.out _ _ ?_ (fun hHeld => ?_); (focus ((try dsimp only); (exact ⟨by rw [Bv_t23.cell]; rfl, by rw [Bv_t23.cell]; rfl, by rw [Bw_t23.cell]; rfl, by rw [Bw_t23.cell]; rfl, by rw [Bx_t23.cell]; rfl, by rw [Bx_t23.cell]; rfl, by rw [Bx_t23.cell]; rfl, by rw [Rt_t23.cell]; rfl, by rw [Rt_t23.cell]; rfl⟩))); clear hK K; (try simp only [Act.put, pa, pb, pc]))
    refine tk 6 ?_
    refine wpAnyH_done (by kernel_rfl) ?_ _
    have hgl_t25 := Rt_t23.lt
    have qBv0 : w3.cell? ⟨w.heap.size, 0, none⟩ = some (.int .i64 z) := by rw [Bv_t23.cell]; rfl
    have qBv1 : w3.cell? ⟨w.heap.size, 1, none⟩ = some (.slice A l.length c) := by rw [Bv_t23.cell]; rfl
    have qBw0 : w3.cell? ⟨w.heap.size + 1, 0, none⟩ = some (.int .i64 a) := by rw [Bw_t23.cell]; rfl
    have qBw1 : w3.cell? ⟨w.heap.size + 1, 1, none⟩ = some (.slice B ws.length d) := by rw [Bw_t23.cell]; rfl
    have qBx0 : w3.cell? ⟨w.heap.size + 2, 0, none⟩ = some (.string x.k) := by rw [Bx_t23.cell]; rfl
    have qBx1 : w3.cell? ⟨w.heap.size + 2, 1, none⟩ = some (.int .i64 x.n) := by rw [Bx_t23.cell]; rfl
    have qBx2 : w3.cell? ⟨w.heap.size + 2, 2, none⟩ = some (.bool x.g) := by rw [Bx_t23.cell]; rfl
    have qRt0 : w3.cell? ⟨w.heap.size + 3, 0, none⟩ = some (.int .i64 0) := by rw [Rt_t23.cell]; rfl
    have qRt1 : w3.cell? ⟨w.heap.size + 3, 1, none⟩ = some (.slice none 0 0) := by rw [Rt_t23.cell]; rfl
    go_wp2_with fail
    clear qBv0 qBv1 qBw0 qBw1 qBx0 qBx1 qBx2 qRt0 qRt1
    refine (l3Copy_c a B d ws _ (by omega) x_t23).mono ?_
    rintro e w4 ⟨Vy, rfl, y_n, hb4⟩
    have HNy : Hid (∀ k, Vy.ownBlock = some k → k ≠ w.heap.size + 3) := Lib.hid (fun k hk => by have := (y_n.block_lt hk).1; omega)
    obtain ⟨ady, cy, rfl, ry1_y, ry2_y, ry3_y⟩ := y_n.read
    clear ry1_y ry2_y ry3_y
    have v_t26 := v_t23.next hb4
    clear v_t23
    have x_t26 := x_t23.next hb4
    clear x_t23
    have Bv_t26 := Bv_t23.next hb4
    clear Bv_t23
    have Bw_t26 := Bw_t23.next hb4
    clear Bw_t23
    have Bx_t26 := Bx_t23.next hb4
    clear Bx_t23
    have Rt_t26 := Rt_t23.next hb4
    clear Rt_t23
    have hw_t26 := below_next hw_t23 hb4
    have hs_t26 := hb4.size
    have qBv0 : w4.cell? ⟨w.heap.size, 0, none⟩ = some (.int .i64 z) := by rw [Bv_t26.cell]; rfl
    have qBv1 : w4.cell? ⟨w.heap.size, 1, none⟩ = some (.slice A l.length c) := by rw [Bv_t26.cell]; rfl
    have qBw0 : w4.cell? ⟨w.heap.size + 1, 0, none⟩ = some (.int .i64 a) := by rw [Bw_t26.cell]; rfl
    have qBw1 : w4.cell? ⟨w.heap.size + 1, 1, none⟩ = some (.slice B ws.length d) := by rw [Bw_t26.cell]; rfl
    have qBx0 : w4.cell? ⟨w.heap.size + 2, 0, none⟩ = some (.string x.k) := by rw [Bx_t26.cell]; rfl
    have qBx1 : w4.cell? ⟨w.heap.size + 2, 1, none⟩ = some (.int .i64 x.n) := by rw [Bx_t26.cell]; rfl
    have qBx2 : w4.cell? ⟨w.heap.size + 2, 2, none⟩ = some (.bool x.g) := by rw [Bx_t26.cell]; rfl
    have qRt0 : w4.cell? ⟨w.heap.size + 3, 0, none⟩ = some (.int .i64 0) := by rw [Rt_t26.cell]; rfl
    have qRt1 : w4.cell? ⟨w.heap.size + 3, 1, none⟩ = some (.slice none 0 0) := by rw [Rt_t26.cell]; rfl
    have d0 := qRt0
    have d1 := qRt1
    have fz0 := Rt_t26.free 0
    have fz1 := Rt_t26.free 1
    go_wp2
    refine bodyPost_ret (v := .tuple #[.agg #[.int .i64 a, .slice ady ws.length cy], .int .i64 2]) (by simp [results, Tryz.results102, go_sem, d0, d1]) rfl ?_
    refine ⟨.slice ady ws.length cy, (by first | (rw [HE.out.1, HE.out.2.1]; done) | (rw [HE.out.1, HE.out.2.1]; rfl)), ?_, ?_⟩
    ·
     have hne : ∀ k, (.slice ady ws.length cy : Value).ownBlock = some k → k ≠ w.heap.size + 3 := HNy.out
     rw [HE.out.2.2]
     exact ((y_n.setCell (a := ⟨w.heap.size + 3, 0, none⟩) hne _).setCell (a := ⟨w.heap.size + 3, 1, none⟩) hne _).low (by omega)
    ·
     exact (hw_t26.setCell (show w.heap.size ≤ w.heap.size + 3 from by omega) _).setCell (show w.heap.size ≤ w.heap.size + 3 from by omega) _
   ·
    have hdl : decide (a < L0) = false := decide_eq_false hlate
    have HC : Hid (wputC z l a ws x = if workB z l a (putXs ws x) then 0 else 3) := Lib.hid (by unfold wputC; rw [hk, hw1, HL0.out, if_pos rfl, if_pos rfl, if_neg hlate])
    have qBv0 : w2.cell? ⟨w.heap.size, 0, none⟩ = some (.int .i64 z) := by rw [Bv_t18.cell]; rfl
    have qBv1 : w2.cell? ⟨w.heap.size, 1, none⟩ = some (.slice A l.length c) := by rw [Bv_t18.cell]; rfl
    have qBw0 : w2.cell? ⟨w.heap.size + 1, 0, none⟩ = some (.int .i64 a) := by rw [Bw_t18.cell]; rfl
    have qBw1 : w2.cell? ⟨w.heap.size + 1, 1, none⟩ = some (.slice B ws.length d) := by rw [Bw_t18.cell]; rfl
    have qBx0 : w2.cell? ⟨w.heap.size + 2, 0, none⟩ = some (.string x.k) := by rw [Bx_t18.cell]; rfl
    have qBx1 : w2.cell? ⟨w.heap.size + 2, 1, none⟩ = some (.int .i64 x.n) := by rw [Bx_t18.cell]; rfl
    have qBx2 : w2.cell? ⟨w.heap.size + 2, 2, none⟩ = some (.bool x.g) := by rw [Bx_t18.cell]; rfl
    have qRt0 : w2.cell? ⟨w.heap.size + 3, 0, none⟩ = some (.int .i64 0) := by rw [Rt_t18.cell]; rfl
    have qRt1 : w2.cell? ⟨w.heap.size + 3, 1, none⟩ = some (.slice none 0 0) := by rw [Rt_t18.cell]; rfl
    go_wp2
    clear qBv0 qBv1 qBw0 qBw1 qBx0 qBx1 qBx2 qRt0 qRt1
    have hb_t20 : Below w2.heap.size w2 w2.drew := (Below.refl _ _).drew
    have v_t21 := v_t18.next hb_t20
    clear v_t18
    have x_t21 := x_t18.next hb_t20
    clear x_t18
    have Bv_t21 := Bv_t18.next hb_t20
    clear Bv_t18
    have Bw_t21 := Bw_t18.next hb_t20
    clear Bw_t18
    have Bx_t21 := Bx_t18.next hb_t20
    clear Bx_t18
    have Rt_t21 := Rt_t18.next hb_t20
    clear Rt_t18
    have hw_t21 := below_next hw_t18 hb_t20
    have hs_t21 := hb_t20.size
    refine wp_region_held_drew (S := (fun W => W.cell? ⟨w.heap.size, 0, none⟩ = some (.int .i64 z) ∧ W.cell? ⟨w.heap.size, 1, none⟩ = some (.slice A l.length c) ∧ W.cell? ⟨w.heap.size + 1, 0, none⟩ = some (.int .i64 a) ∧ W.cell? ⟨w.heap.size + 1, 1, none⟩ = some (.slice B ws.length d) ∧ W.cell? ⟨w.heap.size + 2, 0, none⟩ = some (.string x.k) ∧ W.cell? ⟨w.heap.size + 2, 1, none⟩ = some (.int .i64 x.n) ∧ W.cell? ⟨w.heap.size + 2, 2, none⟩ = some (.bool x.g) ∧ W.cell? ⟨w.heap.size + 3, 0, none⟩ = some (.int .i64 0) ∧ W.cell? ⟨w.heap.size + 3, 1, none⟩ = some (.slice none 0 0))) (by kernel_rfl) ?_ (fun hHeld => ?_)
    focus ((try dsimp only); (exact ⟨by rw [Bv_t21.cell]; rfl, by rw [Bv_t21.cell]; rfl, by rw [Bw_t21.cell]; rfl, by rw [Bw_t21.cell]; rfl, by rw [Bx_t21.cell]; rfl, by rw [Bx_t21.cell]; rfl, by rw [Bx_t21.cell]; rfl, by rw [Rt_t21.cell]; rfl, by rw [Rt_t21.cell]; rfl⟩))
    refine tk 0 ?_
    refine tk 1 ?_
    refine tk 2 ?_
    refine tk 4 ?_
    refine tk 5 ?_
    (refine rd1 3 (fun K hK => ?_); go_simp; (go_at_call 117; refine (specLast z A c l x.k _ hl v_t21).mono ?_; rintro e w3 ⟨rfl, hb3⟩; rw [HL0.out]; have v_t23 := v_t21.next hb3; clear v_t21; have x_t23 := x_t21.next hb3; clear x_t21; have Bv_t23 := Bv_t21.next hb3; clear Bv_t21; have Bw_t23 := Bw_t21.next hb3; clear Bw_t21; have Bx_t23 := Bx_t21.next hb3; clear Bx_t21; have Rt_t23 := Rt_t21.next hb3; clear Rt_t21; have hw_t23 := below_next hw_t21 hb3; have hs_t23 := hb3.size); go_wp2_with fail; refine hK.out _ _ ?_ (fun hHeld => ?_); (focus ((try dsimp only); (exact ⟨by rw [Bv_t23.cell]; rfl, by rw [Bv_t23.cell]; rfl, by rw [Bw_t23.cell]; rfl, by rw [Bw_t23.cell]; rfl, by rw [Bx_t23.cell]; rfl, by rw [Bx_t23.cell]; rfl, by rw [Bx_t23.cell]; rfl, by rw [Rt_t23.cell]; rfl, by rw [Rt_t23.cell]; rfl⟩))); clear hK K; (try simp only [Act.put, pa, pb, pc]))
    refine tk 6 ?_
    refine wpAnyH_done (by kernel_rfl) ?_ _
    have hpl := putXs_length ws x
    have hfp := FitXs.putXs hfx hx1
    obtain ⟨PX, HPX⟩ : ∃ PX, Hid (putXs ws x = PX) := ⟨_, Lib.hid rfl⟩
    rw [HPX.out] at hpl hfp HC
    obtain ⟨WB, HWB⟩ : ∃ WB, Hid (workB z l a PX = WB) := ⟨_, Lib.hid rfl⟩
    rw [HWB.out] at HC
    have qBv0 : w3.cell? ⟨w.heap.size, 0, none⟩ = some (.int .i64 z) := by rw [Bv_t23.cell]; rfl
    have qBv1 : w3.cell? ⟨w.heap.size, 1, none⟩ = some (.slice A l.length c) := by rw [Bv_t23.cell]; rfl
    have qBw0 : w3.cell? ⟨w.heap.size + 1, 0, none⟩ = some (.int .i64 a) := by rw [Bw_t23.cell]; rfl
    have qBw1 : w3.cell? ⟨w.heap.size + 1, 1, none⟩ = some (.slice B ws.length d) := by rw [Bw_t23.cell]; rfl
    have qBx0 : w3.cell? ⟨w.heap.size + 2, 0, none⟩ = some (.string x.k) := by rw [Bx_t23.cell]; rfl
    have qBx1 : w3.cell? ⟨w.heap.size + 2, 1, none⟩ = some (.int .i64 x.n) := by rw [Bx_t23.cell]; rfl
    have qBx2 : w3.cell? ⟨w.heap.size + 2, 2, none⟩ = some (.bool x.g) := by rw [Bx_t23.cell]; rfl
    have qRt0 : w3.cell? ⟨w.heap.size + 3, 0, none⟩ = some (.int .i64 0) := by rw [Rt_t23.cell]; rfl
    have qRt1 : w3.cell? ⟨w.heap.size + 3, 1, none⟩ = some (.slice none 0 0) := by rw [Rt_t23.cell]; rfl
    go_wp2
    clear qBv0 qBv1 qBw0 qBw1 qBx0 qBx1 qBx2 qRt0 qRt1
    have hb_t25 : Below w3.heap.size w3 w3.drew := (Below.refl _ _).drew
    have v_t26 := v_t23.next hb_t25
    clear v_t23
    have x_t26 := x_t23.next hb_t25
    clear x_t23
    have Bv_t26 := Bv_t23.next hb_t25
    clear Bv_t23
    have Bw_t26 := Bw_t23.next hb_t25
    clear Bw_t23
    have Bx_t26 := Bx_t23.next hb_t25
    clear Bx_t23
    have Rt_t26 := Rt_t23.next hb_t25
    clear Rt_t23
    have hw_t26 := below_next hw_t23 hb_t25
    have hs_t26 := hb_t25.size
    refine wp_region_held_drew (S := (fun W => W.cell? ⟨w.heap.size, 0, none⟩ = some (.int .i64 z) ∧ W.cell? ⟨w.heap.size, 1, none⟩ = some (.slice A l.length c) ∧ W.cell? ⟨w.heap.size + 1, 0, none⟩ = some (.int .i64 a) ∧ W.cell? ⟨w.heap.size + 1, 1, none⟩ = some (.slice B ws.length d) ∧ W.cell? ⟨w.heap.size + 2, 0, none⟩ = some (.string x.k) ∧ W.cell? ⟨w.heap.size + 2, 1, none⟩ = some (.int .i64 x.n) ∧ W.cell? ⟨w.heap.size + 2, 2, none⟩ = some (.bool x.g) ∧ W.cell? ⟨w.heap.size + 3, 0, none⟩ = some (.int .i64 0) ∧ W.cell? ⟨w.heap.size + 3, 1, none⟩ = some (.slice none 0 0))) (by kernel_rfl) ?_ (fun hHeld => ?_)
    focus ((try dsimp only); (exact ⟨by rw [Bv_t26.cell]; rfl, by rw [Bv_t26.cell]; rfl, by rw [Bw_t26.cell]; rfl, by rw [Bw_t26.cell]; rfl, by rw [Bx_t26.cell]; rfl, by rw [Bx_t26.cell]; rfl, by rw [Bx_t26.cell]; rfl, by rw [Rt_t26.cell]; rfl, by rw [Rt_t26.cell]; rfl⟩))
    obtain ⟨wd, HWD⟩ : ∃ wd, Hid (w3.drew = wd) := ⟨_, Lib.hid rfl⟩
    rw [HWD.out] at hHeld v_t26 x_t26 Bv_t26 Bw_t26 Bx_t26 Rt_t26 hw_t26
    rw [HWD.out]
    refine tk 0 ?_
    refine tk 1 ?_
    refine tk 2 ?_
    refine tk 3 ?_
    refine tk 4 ?_
    refine wpAnyH_ready (rs := [5, 7]) (by kernel_rfl) (by simp) (AllReadyH.cons (by (simp only [ga, gb, gc]; rfl)) (fun K hK => ?_) (AllReadyH.cons (by (simp only [ga, gb, gc]; rfl)) (fun K hK => ?_) AllReadyH.nil))
    ·
     go_simp
     go_at_call 118
     have hgl_t28 := Rt_t26.lt
     refine (l3Put_c B d ws x _ (by omega) x_t26).mono ?_
     rw [HPX.out]
     rintro e w21 ⟨Vp, rfl, p_n, hb21⟩
     have HNp : Hid (∀ k, Vp.ownBlock = some k → k ≠ w.heap.size + 3) := Lib.hid (fun k hk => by have := (p_n.block_lt hk).1; omega)
     obtain ⟨adp, cp, rfl, ry1_p, ry2_p, ry3_p⟩ := p_n.read
     clear ry1_p ry2_p ry3_p
     have v_t29 := v_t26.next hb21
     clear v_t26
     have x_t29 := x_t26.next hb21
     clear x_t26
     have Bv_t29 := Bv_t26.next hb21
     clear Bv_t26
     have Bw_t29 := Bw_t26.next hb21
     clear Bw_t26
     have Bx_t29 := Bx_t26.next hb21
     clear Bx_t26
     have Rt_t29 := Rt_t26.next hb21
     clear Rt_t26
     have hw_t29 := below_next hw_t26 hb21
     have hs_t29 := hb21.size
     go_wp2_with fail
     refine hK.out _ _ ?_ (fun hHeld => ?_)
     focus ((try dsimp only); (exact ⟨by rw [Bv_t29.cell]; rfl, by rw [Bv_t29.cell]; rfl, by rw [Bw_t29.cell]; rfl, by rw [Bw_t29.cell]; rfl, by rw [Bx_t29.cell]; rfl, by rw [Bx_t29.cell]; rfl, by rw [Bx_t29.cell]; rfl, by rw [Rt_t29.cell]; rfl, by rw [Rt_t29.cell]; rfl⟩))
     clear hK K
     try simp only [Act.put, pa, pb, pc]
     refine tk 6 ?_
     refine rd1 7 (fun K hK => ?_)
     go_simp
     have hbz : Below w21.heap.size w21 (w21.alloc (.cells #[.int .i64 0, .slice none 0 0] 25)) := below_alloc (Below.refl _ _) _
     have Bv_z := Bv_t29.next hbz
     have Bw_z := Bw_t29.next hbz
     have Bx_z := Bx_t29.next hbz
     have Rt_z := Rt_t29.next hbz
     refine hK.out _ _ ?_ (fun hHeld => ?_)
     focus ((try dsimp only); (exact ⟨by rw [Bv_z.cell]; rfl, by rw [Bv_z.cell]; rfl, by rw [Bw_z.cell]; rfl, by rw [Bw_z.cell]; rfl, by rw [Bx_z.cell]; rfl, by rw [Bx_z.cell]; rfl, by rw [Bx_z.cell]; rfl, by rw [Rt_z.cell]; rfl, by rw [Rt_z.cell]; rfl⟩))
     clear hK K
     try simp only [Act.put, pa, pb, pc]
     have By_z := blkA w21 #[.int .i64 0, .slice none 0 0] 25
     have d0 : (w21.alloc (.cells #[.int .i64 0, .slice none 0 0] 25)).cell? ⟨w21.heap.size, 0, none⟩ = some (.int .i64 0) := (by rw [By_z.cell]; rfl)
     have d1 : (w21.alloc (.cells #[.int .i64 0, .slice none 0 0] 25)).cell? ⟨w21.heap.size, 1, none⟩ = some (.slice none 0 0) := (by rw [By_z.cell]; rfl)
     have f0 := By_z.free 0
     have f1 := By_z.free 1
     have hb_t31 := below_alloc (Below.refl _ w21) (.cells #[.int .i64 a, .slice adp PX.length cp] 25)
     have By_t31 := blkA w21 #[.int .i64 a, .slice adp PX.length cp] 25
     have hz_t31 : (w21.alloc (.cells #[.int .i64 a, .slice adp PX.length cp] 25)).heap.size = w21.heap.size + 1 := World.size_alloc _ _
     have v_t32 := v_t29.next hb_t31
     clear v_t29
     have x_t32 := x_t29.next hb_t31
     clear x_t29
     have p_t32 := p_n.next hb_t31
     clear p_n
     have Bv_t32 := Bv_t29.next hb_t31
     clear Bv_t29
     have Bw_t32 := Bw_t29.next hb_t31
     clear Bw_t29
     have Bx_t32 := Bx_t29.next hb_t31
     clear Bx_t29
     have Rt_t32 := Rt_t29.next hb_t31
     clear Rt_t29
     have hw_t32 := below_next hw_t29 hb_t31
     have hs_t32 := hb_t31.size
     refine rd1 8 (fun K hK => ?_)
     go_simp
     refine hK.out _ _ ?_ (fun hHeld => ?_)
     focus ((try dsimp only); (exact ⟨by rw [Bv_t32.cell]; rfl, by rw [Bv_t32.cell]; rfl, by rw [Bw_t32.cell]; rfl, by rw [Bw_t32.cell]; rfl, by rw [Bx_t32.cell]; rfl, by rw [Bx_t32.cell]; rfl, by rw [Bx_t32.cell]; rfl, by rw [Rt_t32.cell]; rfl, by rw [Rt_t32.cell]; rfl⟩))
     clear hK K d0 d1 f0 f1 By_z Bv_z Bw_z Bx_z Rt_z
     try simp only [Act.put, pa, pb, pc]
     refine wpAnyH_done (by kernel_rfl) ?_ _
     have hpd := (p_t32.rd'.2.1)
     have hpm := (p_t32.rd'.2.2.1)
     have qBv0 : (w21.alloc (.cells #[.int .i64 a, .slice adp PX.length cp] 25)).cell? ⟨w.heap.size, 0, none⟩ = some (.int .i64 z) := by rw [Bv_t32.cell]; rfl
     have qBv1 : (w21.alloc (.cells #[.int .i64 a, .slice adp PX.length cp] 25)).cell? ⟨w.heap.size, 1, none⟩ = some (.slice A l.length c) := by rw [Bv_t32.cell]; rfl
     have qBw0 : (w21.alloc (.cells #[.int .i64 a, .slice adp PX.length cp] 25)).cell? ⟨w.heap.size + 1, 0, none⟩ = some (.int .i64 a) := by rw [Bw_t32.cell]; rfl
     have qBw1 : (w21.alloc (.cells #[.int .i64 a, .slice adp PX.length cp] 25)).cell? ⟨w.heap.size + 1, 1, none⟩ = some (.slice B ws.length d) := by rw [Bw_t32.cell]; rfl
     have qBx0 : (w21.alloc (.cells #[.int .i64 a, .slice adp PX.length cp] 25)).cell? ⟨w.heap.size + 2, 0, none⟩ = some (.string x.k) := by rw [Bx_t32.cell]; rfl
     have qBx1 : (w21.alloc (.cells #[.int .i64 a, .slice adp PX.length cp] 25)).cell? ⟨w.heap.size + 2, 1, none⟩ = some (.int .i64 x.n) := by rw [Bx_t32.cell]; rfl
     have qBx2 : (w21.alloc (.cells #[.int .i64 a, .slice adp PX.length cp] 25)).cell? ⟨w.heap.size + 2, 2, none⟩ = some (.bool x.g) := by rw [Bx_t32.cell]; rfl
     have qRt0 : (w21.alloc (.cells #[.int .i64 a, .slice adp PX.length cp] 25)).cell? ⟨w.heap.size + 3, 0, none⟩ = some (.int .i64 0) := by rw [Rt_t32.cell]; rfl
     have qRt1 : (w21.alloc (.cells #[.int .i64 a, .slice adp PX.length cp] 25)).cell? ⟨w.heap.size + 3, 1, none⟩ = some (.slice none 0 0) := by rw [Rt_t32.cell]; rfl
     have qBy0 : (w21.alloc (.cells #[.int .i64 a, .slice adp PX.length cp] 25)).cell? ⟨w21.heap.size, 0, none⟩ = some (.int .i64 a) := by rw [By_t31.cell]; rfl
     have qBy1 : (w21.alloc (.cells #[.int .i64 a, .slice adp PX.length cp] 25)).cell? ⟨w21.heap.size, 1, none⟩ = some (.slice adp PX.length cp) := by rw [By_t31.cell]; rfl
     go_wp2_with fail
     clear qBv0 qBv1 qBw0 qBw1 qBx0 qBx1 qBx2 qRt0 qRt1 qBy0 qBy1
     refine (specWorkOk z A c l a adp cp PX _ hf hc hm hl hfp hpd hpm (by omega) v_t32 (p_t32.rd'.2.2.2)).mono ?_
     rintro e w4 ⟨rfl, hb4⟩
     rw [HWB.out]
     have v_t34 := v_t32.next hb4
     clear v_t32
     have x_t34 := x_t32.next hb4
     clear x_t32
     have p_t34 := p_t32.next hb4
     clear p_t32
     have Bv_t34 := Bv_t32.next hb4
     clear Bv_t32
     have Bw_t34 := Bw_t32.next hb4
     clear Bw_t32
     have Bx_t34 := Bx_t32.next hb4
     clear Bx_t32
     have Rt_t34 := Rt_t32.next hb4
     clear Rt_t32
     have By_t34 := By_t31.next hb4
     clear By_t31
     have hw_t34 := below_next hw_t32 hb4
     have hs_t34 := hb4.size
     cases hwb : WB
     ·
      subst hwb
      have HE : Hid (wputC z l a ws x = 3 ∧ wputA z l a ws = a ∧ wputW z l a ws x = ws) := Lib.hid ⟨HC.out, HA.out, by unfold wputW; rw [hk, HC.out]; rfl⟩
      clear p_t34
      have hgl_t36 := Rt_t34.lt
      have qBv0 : w4.cell? ⟨w.heap.size, 0, none⟩ = some (.int .i64 z) := by rw [Bv_t34.cell]; rfl
      have qBv1 : w4.cell? ⟨w.heap.size, 1, none⟩ = some (.slice A l.length c) := by rw [Bv_t34.cell]; rfl
      have qBw0 : w4.cell? ⟨w.heap.size + 1, 0, none⟩ = some (.int .i64 a) := by rw [Bw_t34.cell]; rfl
      have qBw1 : w4.cell? ⟨w.heap.size + 1, 1, none⟩ = some (.slice B ws.length d) := by rw [Bw_t34.cell]; rfl
      have qBx0 : w4.cell? ⟨w.heap.size + 2, 0, none⟩ = some (.string x.k) := by rw [Bx_t34.cell]; rfl
      have qBx1 : w4.cell? ⟨w.heap.size + 2, 1, none⟩ = some (.int .i64 x.n) := by rw [Bx_t34.cell]; rfl
      have qBx2 : w4.cell? ⟨w.heap.size + 2, 2, none⟩ = some (.bool x.g) := by rw [Bx_t34.cell]; rfl
      have qRt0 : w4.cell? ⟨w.heap.size + 3, 0, none⟩ = some (.int .i64 0) := by rw [Rt_t34.cell]; rfl
      have qRt1 : w4.cell? ⟨w.heap.size + 3, 1, none⟩ = some (.slice none 0 0) := by rw [Rt_t34.cell]; rfl
      have qBy0 : w4.cell? ⟨w21.heap.size, 0, none⟩ = some (.int .i64 a) := by rw [By_t34.cell]; rfl
      have qBy1 : w4.cell? ⟨w21.heap.size, 1, none⟩ = some (.slice adp PX.length cp) := by rw [By_t34.cell]; rfl
      go_wp2_with fail
      clear qBv0 qBv1 qBw0 qBw1 qBx0 qBx1 qBx2 qRt0 qRt1 qBy0 qBy1
      refine (l3Copy_c a B d ws _ (by omega) x_t34).mono ?_
      rintro e w5 ⟨Vy, rfl, y_n, hb5⟩
      have HNy : Hid (∀ k, Vy.ownBlock = some k → k ≠ w.heap.size + 3) := Lib.hid (fun k hk => by have := (y_n.block_lt hk).1; omega)
      obtain ⟨ady, cy, rfl, ry1_y, ry2_y, ry3_y⟩ := y_n.read
      clear ry1_y ry2_y ry3_y
      have v_t37 := v_t34.next hb5
      clear v_t34
      have x_t37 := x_t34.next hb5
      clear x_t34
      have Bv_t37 := Bv_t34.next hb5
      clear Bv_t34
      have Bw_t37 := Bw_t34.next hb5
      clear Bw_t34
      have Bx_t37 := Bx_t34.next hb5
      clear Bx_t34
      have Rt_t37 := Rt_t34.next hb5
      clear Rt_t34
      have By_t37 := By_t34.next hb5
      clear By_t34
      have hw_t37 := below_next hw_t34 hb5
      have hs_t37 := hb5.size
      have qBv0 : w5.cell? ⟨w.heap.size, 0, none⟩ = some (.int .i64 z) := by rw [Bv_t37.cell]; rfl
      have qBv1 : w5.cell? ⟨w.heap.size, 1, none⟩ = some (.slice A l.length c) := by rw [Bv_t37.cell]; rfl
      have qBw0 : w5.cell? ⟨w.heap.size + 1, 0, none⟩ = some (.int .i64 a) := by rw [Bw_t37.cell]; rfl
      have qBw1 : w5.cell? ⟨w.heap.size + 1, 1, none⟩ = some (.slice B ws.length d) := by rw [Bw_t37.cell]; rfl
      have qBx0 : w5.cell? ⟨w.heap.size + 2, 0, none⟩ = some (.string x.k) := by rw [Bx_t37.cell]; rfl
      have qBx1 : w5.cell? ⟨w.heap.size + 2, 1, none⟩ = some (.int .i64 x.n) := by rw [Bx_t37.cell]; rfl
      have qBx2 : w5.cell? ⟨w.heap.size + 2, 2, none⟩ = some (.bool x.g) := by rw [Bx_t37.cell]; rfl
      have qRt0 : w5.cell? ⟨w.heap.size + 3, 0, none⟩ = some (.int .i64 0) := by rw [Rt_t37.cell]; rfl
      have qRt1 : w5.cell? ⟨w.heap.size + 3, 1, none⟩ = some (.slice none 0 0) := by rw [Rt_t37.cell]; rfl
      have qBy0 : w5.cell? ⟨w21.heap.size, 0, none⟩ = some (.int .i64 a) := by rw [By_t37.cell]; rfl
      have qBy1 : w5.cell? ⟨w21.heap.size, 1, none⟩ = some (.slice adp PX.length cp) := by rw [By_t37.cell]; rfl
      have d0 := qRt0
      have d1 := qRt1
      have fz0 := Rt_t37.free 0
      have fz1 := Rt_t37.free 1
      go_wp2
      refine bodyPost_ret (v := .tuple #[.agg #[.int .i64 a, .slice ady ws.length cy], .int .i64 3]) (by simp [results, Tryz.results102, go_sem, d0, d1]) rfl ?_
      refine ⟨.slice ady ws.length cy, (by first | (rw [HE.out.1, HE.out.2.1]; done) | (rw [HE.out.1, HE.out.2.1]; rfl)), ?_, ?_⟩
      ·
       have hne : ∀ k, (.slice ady ws.length cy : Value).ownBlock = some k → k ≠ w.heap.size + 3 := HNy.out
       rw [HE.out.2.2]
       exact ((y_n.setCell (a := ⟨w.heap.size + 3, 0, none⟩) hne _).setCell (a := ⟨w.heap.size + 3, 1, none⟩) hne _).low (by omega)
      ·
       exact (hw_t37.setCell (show w.heap.size ≤ w.heap.size + 3 from by omega) _).setCell (show w.heap.size ≤ w.heap.size + 3 from by omega) _
     ·
      subst hwb
      have HE : Hid (wputC z l a ws x = 0 ∧ wputA z l a ws = a ∧ wputW z l a ws x = PX) := Lib.hid ⟨HC.out, HA.out, by unfold wputW; rw [hk, HC.out, HPX.out]; rfl⟩
      have qBv0 : w4.cell? ⟨w.heap.size, 0, none⟩ = some (.int .i64 z) := by rw [Bv_t34.cell]; rfl
      have qBv1 : w4.cell? ⟨w.heap.size, 1, none⟩ = some (.slice A l.length c) := by rw [Bv_t34.cell]; rfl
      have qBw0 : w4.cell? ⟨w.heap.size + 1, 0, none⟩ = some (.int .i64 a) := by rw [Bw_t34.cell]; rfl
      have qBw1 : w4.cell? ⟨w.heap.size + 1, 1, none⟩ = some (.slice B ws.length d) := by rw [Bw_t34.cell]; rfl
      have qBx0 : w4.cell? ⟨w.heap.size + 2, 0, none⟩ = some (.string x.k) := by rw [Bx_t34.cell]; rfl
      have qBx1 : w4.cell? ⟨w.heap.size + 2, 1, none⟩ = some (.int .i64 x.n) := by rw [Bx_t34.cell]; rfl
      have qBx2 : w4.cell? ⟨w.heap.size + 2, 2, none⟩ = some (.bool x.g) := by rw [Bx_t34.cell]; rfl
      have qRt0 : w4.cell? ⟨w.heap.size + 3, 0, none⟩ = some (.int .i64 0) := by rw [Rt_t34.cell]; rfl
      have qRt1 : w4.cell? ⟨w.heap.size + 3, 1, none⟩ = some (.slice none 0 0) := by rw [Rt_t34.cell]; rfl
      have qBy0 : w4.cell? ⟨w21.heap.size, 0, none⟩ = some (.int .i64 a) := by rw [By_t34.cell]; rfl
      have qBy1 : w4.cell? ⟨w21.heap.size, 1, none⟩ = some (.slice adp PX.length cp) := by rw [By_t34.cell]; rfl
      have d0 := qRt0
      have d1 := qRt1
      have fz0 := Rt_t34.free 0
      have fz1 := Rt_t34.free 1
      go_wp2
      refine bodyPost_ret (v := .tuple #[.agg #[.int .i64 a, .slice adp PX.length cp], .int .i64 0]) (by simp [results, Tryz.results102, go_sem, d0, d1]) rfl ?_
      refine ⟨.slice adp PX.length cp, (by first | (rw [HE.out.1, HE.out.2.1]; done) | (rw [HE.out.1, HE.out.2.1]; rfl)), ?_, ?_⟩
      ·
       have hne : ∀ k, (.slice adp PX.length cp : Value).ownBlock = some k → k ≠ w.heap.size + 3 := HNp.out
       rw [HE.out.2.2]
       exact ((p_t34.setCell (a := ⟨w.heap.size + 3, 0, none⟩) hne _).setCell (a := ⟨w.heap.size + 3, 1, none⟩) hne _).low (by omega)
      ·
       exact (hw_t34.setCell (show w.heap.size ≤ w.heap.size + 3 from by omega) _).setCell (show w.heap.size ≤ w.heap.size + 3 from by omega) _
    ·
     go_simp
     have lt_Bv := Bv_t26.lt
     have lt_Bw := Bw_t26.lt
     have lt_Bx := Bx_t26.lt
     have lt_Rt := Rt_t26.lt
     have hb_t28 := below_alloc (Below.refl _ wd) (.cells #[.int .i64 0, .slice none 0 0] 25)
     have By_t28 := blkA wd #[.int .i64 0, .slice none 0 0] 25
     have hz_t28 : (wd.alloc (.cells #[.int .i64 0, .slice none 0 0] 25)).heap.size = wd.heap.size + 1 := World.size_alloc _ _
     have v_t29 := v_t26.next hb_t28
     clear v_t26
     have x_t29 := x_t26.next hb_t28
     clear x_t26
     have Bv_t29 := Bv_t26.next hb_t28
     clear Bv_t26
     have Bw_t29 := Bw_t26.next hb_t28
     clear Bw_t26
     have Bx_t29 := Bx_t26.next hb_t28
     clear Bx_t26
     have Rt_t29 := Rt_t26.next hb_t28
     clear Rt_t26
     have hw_t29 := below_next hw_t26 hb_t28
     have hs_t29 := hb_t28.size
     refine hK.out _ _ ?_ (fun hHeld => ?_)
     focus ((try dsimp only); (exact ⟨by rw [Bv_t29.cell]; rfl, by rw [Bv_t29.cell]; rfl, by rw [Bw_t29.cell]; rfl, by rw [Bw_t29.cell]; rfl, by rw [Bx_t29.cell]; rfl, by rw [Bx_t29.cell]; rfl, by rw [Bx_t29.cell]; rfl, by rw [Rt_t29.cell]; rfl, by rw [Rt_t29.cell]; rfl⟩))
     clear hK K
     try simp only [Act.put, pa, pb, pc]
     obtain ⟨yb, HYb⟩ : ∃ yb, Hid (wd.heap.size = yb) := ⟨_, Lib.hid rfl⟩
     have ne_Bv : w.heap.size < yb := by have h1 := lt_Bv; have h3 := HYb.out; omega
     have ne_Bw : w.heap.size + 1 < yb := by have h1 := lt_Bw; have h3 := HYb.out; omega
     have ne_Bx : w.heap.size + 2 < yb := by have h1 := lt_Bx; have h3 := HYb.out; omega
     have ne_Rt : w.heap.size + 3 < yb := by have h1 := lt_Rt; have h3 := HYb.out; omega
     rw [HYb.out] at By_t28
     try rw [HYb.out]
     obtain ⟨we, HWE⟩ : ∃ we, Hid ((wd.alloc (.cells #[.int .i64 0, .slice none 0 0] 25)) = we) := ⟨_, Lib.hid rfl⟩
     rw [HWE.out] at hHeld v_t29 x_t29 Bv_t29 Bw_t29 Bx_t29 Rt_t29 By_t28 hw_t29
     rw [HWE.out]
     refine rd1 5 (fun K hK => ?_)
     go_simp
     go_at_call 118
     have hgl_t31 := Rt_t29.lt
     refine (l3Put_c B d ws x _ (by omega) x_t29).mono ?_
     rw [HPX.out]
     rintro e w22 ⟨Vp, rfl, p_n, hb22⟩
     have HNp : Hid (∀ k, Vp.ownBlock = some k → k ≠ w.heap.size + 3) := Lib.hid (fun k hk => by have := (p_n.block_lt hk).1; omega)
     have hyl := By_t28.lt
     have HNq : Hid (∀ k, Vp.ownBlock = some k → k ≠ yb) := Lib.hid (fun k hk => by have := (p_n.block_lt hk).1; omega)
     obtain ⟨adp, cp, rfl, ry1_p, ry2_p, ry3_p⟩ := p_n.read
     clear ry1_p ry2_p ry3_p
     have v_t32 := v_t29.next hb22
     clear v_t29
     have x_t32 := x_t29.next hb22
     clear x_t29
     have Bv_t32 := Bv_t29.next hb22
     clear Bv_t29
     have Bw_t32 := Bw_t29.next hb22
     clear Bw_t29
     have Bx_t32 := Bx_t29.next hb22
     clear Bx_t29
     have Rt_t32 := Rt_t29.next hb22
     clear Rt_t29
     have By_t32 := By_t28.next hb22
     clear By_t28
     have hw_t32 := below_next hw_t29 hb22
     have hs_t32 := hb22.size
     go_wp2_with fail
     refine hK.out _ _ ?_ (fun hHeld => ?_)
     focus ((try dsimp only); (exact ⟨by rw [Bv_t32.cell]; rfl, by rw [Bv_t32.cell]; rfl, by rw [Bw_t32.cell]; rfl, by rw [Bw_t32.cell]; rfl, by rw [Bx_t32.cell]; rfl, by rw [Bx_t32.cell]; rfl, by rw [Bx_t32.cell]; rfl, by rw [Rt_t32.cell]; rfl, by rw [Rt_t32.cell]; rfl⟩))
     clear hK K
     try simp only [Act.put, pa, pb, pc]
     refine tk 6 ?_
     have d0 : w22.cell? ⟨yb, 0, none⟩ = some (.int .i64 0) := (by rw [By_t32.cell]; rfl)
     have d1 : w22.cell? ⟨yb, 1, none⟩ = some (.slice none 0 0) := (by rw [By_t32.cell]; rfl)
     have f0 := By_t32.free 0
     have f1 := By_t32.free 1
     have Bv_s := (Bv_t32.setOther (a := ⟨yb, 0, none⟩) (show w.heap.size ≠ yb from by omega) (.int .i64 a)).setOther (a := ⟨yb, 1, none⟩) (show w.heap.size ≠ yb from by omega) (.slice adp PX.length cp)
     have Bw_s := (Bw_t32.setOther (a := ⟨yb, 0, none⟩) (show w.heap.size + 1 ≠ yb from by omega) (.int .i64 a)).setOther (a := ⟨yb, 1, none⟩) (show w.heap.size + 1 ≠ yb from by omega) (.slice adp PX.length cp)
     have Bx_s := (Bx_t32.setOther (a := ⟨yb, 0, none⟩) (show w.heap.size + 2 ≠ yb from by omega) (.int .i64 a)).setOther (a := ⟨yb, 1, none⟩) (show w.heap.size + 2 ≠ yb from by omega) (.slice adp PX.length cp)
     have Rt_s := (Rt_t32.setOther (a := ⟨yb, 0, none⟩) (show w.heap.size + 3 ≠ yb from by omega) (.int .i64 a)).setOther (a := ⟨yb, 1, none⟩) (show w.heap.size + 3 ≠ yb from by omega) (.slice adp PX.length cp)
     have By_s := (By_t32.set_ 0 (.int .i64 a)).set_ 1 (.slice adp PX.length cp)
     have hw_s : Below w.heap.size w ((w22.setCell ⟨yb, 0, none⟩ (.int .i64 a)).setCell ⟨yb, 1, none⟩ (.slice adp PX.length cp)) := (hw_t32.setCell (show w.heap.size ≤ yb from by omega) _).setCell (show w.heap.size ≤ yb from by omega) _
     have p_s := (p_n.setCell (a := ⟨yb, 0, none⟩) HNq.out (.int .i64 a)).setCell (a := ⟨yb, 1, none⟩) HNq.out (.slice adp PX.length cp)
     have v_s := (hrO.out.below hw_s).more hw_s.size
     have x_s := (hrxO.out.below hw_s).more hw_s.size
     refine rd1 8 (fun K hK => ?_)
     go_simp
     refine hK.out _ _ ?_ (fun hHeld => ?_)
     focus ((try dsimp only); (exact ⟨by rw [Bv_s.cell]; rfl, by rw [Bv_s.cell]; rfl, by rw [Bw_s.cell]; rfl, by rw [Bw_s.cell]; rfl, by rw [Bx_s.cell]; rfl, by rw [Bx_s.cell]; rfl, by rw [Bx_s.cell]; rfl, by rw [Rt_s.cell]; rfl, by rw [Rt_s.cell]; rfl⟩))
     clear hK K d0 d1 f0 f1
     try simp only [Act.put, pa, pb, pc]
     refine wpAnyH_done (by kernel_rfl) ?_ _
     clear hHeld v_t32 x_t32 p_n Bv_t32 Bw_t32 Bx_t32 Rt_t32 By_t32 hw_t32
     obtain ⟨wg, HWG⟩ : ∃ wg, Hid (((w22.setCell ⟨yb, 0, none⟩ (.int .i64 a)).setCell ⟨yb, 1, none⟩ (.slice adp PX.length cp)) = wg) := ⟨_, Lib.hid rfl⟩
     rw [HWG.out] at v_s x_s p_s Bv_s Bw_s Bx_s Rt_s By_s hw_s
     try rw [HWG.out]
     have By_g : Blk wg yb 25 #[.int .i64 a, .slice adp PX.length cp] := By_s
     clear By_s
     have hpd := (p_s.rd'.2.1)
     have hpm := (p_s.rd'.2.2.1)
     have qBv0 : wg.cell? ⟨w.heap.size, 0, none⟩ = some (.int .i64 z) := by rw [Bv_s.cell]; rfl
     have qBv1 : wg.cell? ⟨w.heap.size, 1, none⟩ = some (.slice A l.length c) := by rw [Bv_s.cell]; rfl
     have qBw0 : wg.cell? ⟨w.heap.size + 1, 0, none⟩ = some (.int .i64 a) := by rw [Bw_s.cell]; rfl
     have qBw1 : wg.cell? ⟨w.heap.size + 1, 1, none⟩ = some (.slice B ws.length d) := by rw [Bw_s.cell]; rfl
     have qBx0 : wg.cell? ⟨w.heap.size + 2, 0, none⟩ = some (.string x.k) := by rw [Bx_s.cell]; rfl
     have qBx1 : wg.cell? ⟨w.heap.size + 2, 1, none⟩ = some (.int .i64 x.n) := by rw [Bx_s.cell]; rfl
     have qBx2 : wg.cell? ⟨w.heap.size + 2, 2, none⟩ = some (.bool x.g) := by rw [Bx_s.cell]; rfl
     have qRt0 : wg.cell? ⟨w.heap.size + 3, 0, none⟩ = some (.int .i64 0) := by rw [Rt_s.cell]; rfl
     have qRt1 : wg.cell? ⟨w.heap.size + 3, 1, none⟩ = some (.slice none 0 0) := by rw [Rt_s.cell]; rfl
     have qBy0 : wg.cell? ⟨yb, 0, none⟩ = some (.int .i64 a) := by rw [By_g.cell]; rfl
     have qBy1 : wg.cell? ⟨yb, 1, none⟩ = some (.slice adp PX.length cp) := by rw [By_g.cell]; rfl
     go_wp2_with fail
     clear qBv0 qBv1 qBw0 qBw1 qBx0 qBx1 qBx2 qRt0 qRt1 qBy0 qBy1
     refine (specWorkOk z A c l a adp cp PX _ hf hc hm hl hfp hpd hpm (by omega) v_s (p_s.rd'.2.2.2)).mono ?_
     rintro e w4 ⟨rfl, hb4⟩
     rw [HWB.out]
     have v_t34 := v_s.next hb4
     clear v_s
     have x_t34 := x_s.next hb4
     clear x_s
     have p_t34 := p_s.next hb4
     clear p_s
     have Bv_t34 := Bv_s.next hb4
     clear Bv_s
     have Bw_t34 := Bw_s.next hb4
     clear Bw_s
     have Bx_t34 := Bx_s.next hb4
     clear Bx_s
     have Rt_t34 := Rt_s.next hb4
     clear Rt_s
     have By_t34 := By_g.next hb4
     clear By_g
     have hw_t34 := below_next hw_s hb4
     have hs_t34 := hb4.size
     cases hwb : WB
     ·
      subst hwb
      have HE : Hid (wputC z l a ws x = 3 ∧ wputA z l a ws = a ∧ wputW z l a ws x = ws) := Lib.hid ⟨HC.out, HA.out, by unfold wputW; rw [hk, HC.out]; rfl⟩
      clear p_t34
      have hgl_t36 := Rt_t34.lt
      have qBv0 : w4.cell? ⟨w.heap.size, 0, none⟩ = some (.int .i64 z) := by rw [Bv_t34.cell]; rfl
      have qBv1 : w4.cell? ⟨w.heap.size, 1, none⟩ = some (.slice A l.length c) := by rw [Bv_t34.cell]; rfl
      have qBw0 : w4.cell? ⟨w.heap.size + 1, 0, none⟩ = some (.int .i64 a) := by rw [Bw_t34.cell]; rfl
      have qBw1 : w4.cell? ⟨w.heap.size + 1, 1, none⟩ = some (.slice B ws.length d) := by rw [Bw_t34.cell]; rfl
      have qBx0 : w4.cell? ⟨w.heap.size + 2, 0, none⟩ = some (.string x.k) := by rw [Bx_t34.cell]; rfl
      have qBx1 : w4.cell? ⟨w.heap.size + 2, 1, none⟩ = some (.int .i64 x.n) := by rw [Bx_t34.cell]; rfl
      have qBx2 : w4.cell? ⟨w.heap.size + 2, 2, none⟩ = some (.bool x.g) := by rw [Bx_t34.cell]; rfl
      have qRt0 : w4.cell? ⟨w.heap.size + 3, 0, none⟩ = some (.int .i64 0) := by rw [Rt_t34.cell]; rfl
      have qRt1 : w4.cell? ⟨w.heap.size + 3, 1, none⟩ = some (.slice none 0 0) := by rw [Rt_t34.cell]; rfl
      have qBy0 : w4.cell? ⟨yb, 0, none⟩ = some (.int .i64 a) := by rw [By_t34.cell]; rfl
      have qBy1 : w4.cell? ⟨yb, 1, none⟩ = some (.slice adp PX.length cp) := by rw [By_t34.cell]; rfl
      go_wp2_with fail
      clear qBv0 qBv1 qBw0 qBw1 qBx0 qBx1 qBx2 qRt0 qRt1 qBy0 qBy1
      refine (l3Copy_c a B d ws _ (by omega) x_t34).mono ?_
      rintro e w5 ⟨Vy, rfl, y_n, hb5⟩
      have HNy : Hid (∀ k, Vy.ownBlock = some k → k ≠ w.heap.size + 3) := Lib.hid (fun k hk => by have := (y_n.block_lt hk).1; omega)
      obtain ⟨ady, cy, rfl, ry1_y, ry2_y, ry3_y⟩ := y_n.read
      clear ry1_y ry2_y ry3_y
      have v_t37 := v_t34.next hb5
      clear v_t34
      have x_t37 := x_t34.next hb5
      clear x_t34
      have Bv_t37 := Bv_t34.next hb5
      clear Bv_t34
      have Bw_t37 := Bw_t34.next hb5
      clear Bw_t34
      have Bx_t37 := Bx_t34.next hb5
      clear Bx_t34
      have Rt_t37 := Rt_t34.next hb5
      clear Rt_t34
      have By_t37 := By_t34.next hb5
      clear By_t34
      have hw_t37 := below_next hw_t34 hb5
      have hs_t37 := hb5.size
      have qBv0 : w5.cell? ⟨w.heap.size, 0, none⟩ = some (.int .i64 z) := by rw [Bv_t37.cell]; rfl
      have qBv1 : w5.cell? ⟨w.heap.size, 1, none⟩ = some (.slice A l.length c) := by rw [Bv_t37.cell]; rfl
      have qBw0 : w5.cell? ⟨w.heap.size + 1, 0, none⟩ = some (.int .i64 a) := by rw [Bw_t37.cell]; rfl
      have qBw1 : w5.cell? ⟨w.heap.size + 1, 1, none⟩ = some (.slice B ws.length d) := by rw [Bw_t37.cell]; rfl
      have qBx0 : w5.cell? ⟨w.heap.size + 2, 0, none⟩ = some (.string x.k) := by rw [Bx_t37.cell]; rfl
      have qBx1 : w5.cell? ⟨w.heap.size + 2, 1, none⟩ = some (.int .i64 x.n) := by rw [Bx_t37.cell]; rfl
      have qBx2 : w5.cell? ⟨w.heap.size + 2, 2, none⟩ = some (.bool x.g) := by rw [Bx_t37.cell]; rfl
      have qRt0 : w5.cell? ⟨w.heap.size + 3, 0, none⟩ = some (.int .i64 0) := by rw [Rt_t37.cell]; rfl
      have qRt1 : w5.cell? ⟨w.heap.size + 3, 1, none⟩ = some (.slice none 0 0) := by rw [Rt_t37.cell]; rfl
      have qBy0 : w5.cell? ⟨yb, 0, none⟩ = some (.int .i64 a) := by rw [By_t37.cell]; rfl
      have qBy1 : w5.cell? ⟨yb, 1, none⟩ = some (.slice adp PX.length cp) := by rw [By_t37.cell]; rfl
      have d0 := qRt0
      have d1 := qRt1
      have fz0 := Rt_t37.free 0
      have fz1 := Rt_t37.free 1
      go_wp2
      refine bodyPost_ret (v := .tuple #[.agg #[.int .i64 a, .slice ady ws.length cy], .int .i64 3]) (by simp [results, Tryz.results102, go_sem, d0, d1]) rfl ?_
      refine ⟨.slice ady ws.length cy, (by first | (rw [HE.out.1, HE.out.2.1]; done) | (rw [HE.out.1, HE.out.2.1]; rfl)), ?_, ?_⟩
      ·
       have hne : ∀ k, (.slice ady ws.length cy : Value).ownBlock = some k → k ≠ w.heap.size + 3 := HNy.out
       rw [HE.out.2.2]
       exact ((y_n.setCell (a := ⟨w.heap.size + 3, 0, none⟩) hne _).setCell (a := ⟨w.heap.size + 3, 1, none⟩) hne _).low (by omega)
      ·
       exact (hw_t37.setCell (show w.heap.size ≤ w.heap.size + 3 from by omega) _).setCell (show w.heap.size ≤ w.heap.size + 3 from by omega) _
     ·
      subst hwb
      have HE : Hid (wputC z l a ws x = 0 ∧ wputA z l a ws = a ∧ wputW z l a ws x = PX) := Lib.hid ⟨HC.out, HA.out, by unfold wputW; rw [hk, HC.out, HPX.out]; rfl⟩
      have qBv0 : w4.cell? ⟨w.heap.size, 0, none⟩ = some (.int .i64 z) := by rw [Bv_t34.cell]; rfl
      have qBv1 : w4.cell? ⟨w.heap.size, 1, none⟩ = some (.slice A l.length c) := by rw [Bv_t34.cell]; rfl
      have qBw0 : w4.cell? ⟨w.heap.size + 1, 0, none⟩ = some (.int .i64 a) := by rw [Bw_t34.cell]; rfl
      have qBw1 : w4.cell? ⟨w.heap.size + 1, 1, none⟩ = some (.slice B ws.length d) := by rw [Bw_t34.cell]; rfl
      have qBx0 : w4.cell? ⟨w.heap.size + 2, 0, none⟩ = some (.string x.k) := by rw [Bx_t34.cell]; rfl
      have qBx1 : w4.cell? ⟨w.heap.size + 2, 1, none⟩ = some (.int .i64 x.n) := by rw [Bx_t34.cell]; rfl
      have qBx2 : w4.cell? ⟨w.heap.size + 2, 2, none⟩ = some (.bool x.g) := by rw [Bx_t34.cell]; rfl
      have qRt0 : w4.cell? ⟨w.heap.size + 3, 0, none⟩ = some (.int .i64 0) := by rw [Rt_t34.cell]; rfl
      have qRt1 : w4.cell? ⟨w.heap.size + 3, 1, none⟩ = some (.slice none 0 0) := by rw [Rt_t34.cell]; rfl
      have qBy0 : w4.cell? ⟨yb, 0, none⟩ = some (.int .i64 a) := by rw [By_t34.cell]; rfl
      have qBy1 : w4.cell? ⟨yb, 1, none⟩ = some (.slice adp PX.length cp) := by rw [By_t34.cell]; rfl
      have d0 := qRt0
      have d1 := qRt1
      have fz0 := Rt_t34.free 0
      have fz1 := Rt_t34.free 1
      go_wp2
      refine bodyPost_ret (v := .tuple #[.agg #[.int .i64 a, .slice adp PX.length cp], .int .i64 0]) (by simp [results, Tryz.results102, go_sem, d0, d1]) rfl ?_
      refine ⟨.slice adp PX.length cp, (by first | (rw [HE.out.1, HE.out.2.1]; done) | (rw [HE.out.1, HE.out.2.1]; rfl)), ?_, ?_⟩
      ·
       have hne : ∀ k, (.slice adp PX.length cp : Value).ownBlock = some k → k ≠ w.heap.size + 3 := HNp.out
       rw [HE.out.2.2]
       exact ((p_t34.setCell (a := ⟨w.heap.size + 3, 0, none⟩) hne _).setCell (a := ⟨w.heap.size + 3, 1, none⟩) hne _).low (by omega)
      ·
       exact (hw_t34.setCell (show w.heap.size ≤ w.heap.size + 3 from by omega) _).setCell (show w.heap.size ≤ w.heap.size + 3 from by omega) _

end Go.Proofs.YtnijgbinjbikbaaGreat
