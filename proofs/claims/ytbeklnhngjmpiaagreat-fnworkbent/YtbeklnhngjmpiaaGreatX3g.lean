/- The program's chapter 3: WorkPut. -/
import Derived.Test.YtbeklnhngjmpiaaGreatX3f
import Derived.Test.YtbeklnhngjmpiaaGreatW3e
namespace Go.Proofs.YtbeklnhngjmpiaaGreat
open Go.RowKit
set_option linter.unusedVariables false
set_option maxRecDepth 100000

set_option maxHeartbeats 8000000 in
theorem implWorkPut (z : Int) (A : Option Addr) (c : Nat) (l : List V) (a : Int) (B : Option Addr) (d : Nat) (ws : List X) (x : X) (w : World) (hf : FitVs l) (hc : l.length ≤ c) (hm : c ≤ maxLen) (hl : l.length ≤ 1048576) (hfx : FitXs ws) (hd : ws.length ≤ d) (hmd : d ≤ maxLen) (hlx : ws.length ≤ 1048576) (hx1 : FitX x) (hr : RdG w w.heap.size A l) (hrx : RdG w w.heap.size B ws)  :
  Calls Tryz.prog 32 #[.agg #[.int .i64 z, .slice A l.length c], .agg #[.int .i64 a, .slice B ws.length d], .agg #[.string x.k, .int .i64 x.n, .bool x.g]] w (RetXC w (wputA z l a ws) (wputW z l a ws x) (wputC z l a ws x)) := by
 have hrO := Lib.hid hr
 have hrxO := Lib.hid hrx
 have hxk : x.k.size ≤ maxLen := by have h := hx1; first | exact h.1 | exact h | (unfold FitX at h; exact h.1)
 go_enter Tryz.func32, Tryz.ntmps32
 have hb_t1 := below_alloc (Below.refl _ w) (.cells #[.int .i64 z, .slice A l.length c] 34)
 have Bv_t1 := blkA w #[.int .i64 z, .slice A l.length c] 34
 have hz_t1 : (w.alloc (.cells #[.int .i64 z, .slice A l.length c] 34)).heap.size = w.heap.size + 1 := World.size_alloc _ _
 have hw_t2 := hb_t1
 have hs_t2 := hb_t1.size
 have hb_t4 := below_alloc (Below.refl _ (w.alloc (.cells #[.int .i64 z, .slice A l.length c] 34))) (.cells #[.int .i64 a, .slice B ws.length d] 38)
 have Bw_t4 := blkA (w.alloc (.cells #[.int .i64 z, .slice A l.length c] 34)) #[.int .i64 a, .slice B ws.length d] 38
 simp only [World.size_alloc] at Bw_t4
 have hz_t4 : ((w.alloc (.cells #[.int .i64 z, .slice A l.length c] 34)).alloc (.cells #[.int .i64 a, .slice B ws.length d] 38)).heap.size = (w.alloc (.cells #[.int .i64 z, .slice A l.length c] 34)).heap.size + 1 := World.size_alloc _ _
 have Bv_t5 := Bv_t1.next hb_t4
 clear Bv_t1
 have hw_t5 := below_next hw_t2 hb_t4
 have hs_t5 := hb_t4.size
 have hb_t7 := below_alloc (Below.refl _ ((w.alloc (.cells #[.int .i64 z, .slice A l.length c] 34)).alloc (.cells #[.int .i64 a, .slice B ws.length d] 38))) (.cells #[.string x.k, .int .i64 x.n, .bool x.g] 52)
 have Bx_t7 := blkA ((w.alloc (.cells #[.int .i64 z, .slice A l.length c] 34)).alloc (.cells #[.int .i64 a, .slice B ws.length d] 38)) #[.string x.k, .int .i64 x.n, .bool x.g] 52
 simp only [World.size_alloc] at Bx_t7
 have hz_t7 : (((w.alloc (.cells #[.int .i64 z, .slice A l.length c] 34)).alloc (.cells #[.int .i64 a, .slice B ws.length d] 38)).alloc (.cells #[.string x.k, .int .i64 x.n, .bool x.g] 52)).heap.size = ((w.alloc (.cells #[.int .i64 z, .slice A l.length c] 34)).alloc (.cells #[.int .i64 a, .slice B ws.length d] 38)).heap.size + 1 := World.size_alloc _ _
 have Bv_t8 := Bv_t5.next hb_t7
 clear Bv_t5
 have Bw_t8 := Bw_t4.next hb_t7
 clear Bw_t4
 have hw_t8 := below_next hw_t5 hb_t7
 have hs_t8 := hb_t7.size
 have hb_t10 := below_alloc (Below.refl _ (((w.alloc (.cells #[.int .i64 z, .slice A l.length c] 34)).alloc (.cells #[.int .i64 a, .slice B ws.length d] 38)).alloc (.cells #[.string x.k, .int .i64 x.n, .bool x.g] 52))) (.cells #[.int .i64 0, .slice none 0 0] 38)
 have Rt_t10 := blkA (((w.alloc (.cells #[.int .i64 z, .slice A l.length c] 34)).alloc (.cells #[.int .i64 a, .slice B ws.length d] 38)).alloc (.cells #[.string x.k, .int .i64 x.n, .bool x.g] 52)) #[.int .i64 0, .slice none 0 0] 38
 simp only [World.size_alloc] at Rt_t10
 have hz_t10 : ((((w.alloc (.cells #[.int .i64 z, .slice A l.length c] 34)).alloc (.cells #[.int .i64 a, .slice B ws.length d] 38)).alloc (.cells #[.string x.k, .int .i64 x.n, .bool x.g] 52)).alloc (.cells #[.int .i64 0, .slice none 0 0] 38)).heap.size = (((w.alloc (.cells #[.int .i64 z, .slice A l.length c] 34)).alloc (.cells #[.int .i64 a, .slice B ws.length d] 38)).alloc (.cells #[.string x.k, .int .i64 x.n, .bool x.g] 52)).heap.size + 1 := World.size_alloc _ _
 have Bv_t11 := Bv_t8.next hb_t10
 clear Bv_t8
 have Bw_t11 := Bw_t8.next hb_t10
 clear Bw_t8
 have Bx_t11 := Bx_t7.next hb_t10
 clear Bx_t7
 have hw_t11 := below_next hw_t8 hb_t10
 have hs_t11 := hb_t10.size
 have v_0 := hr.next hw_t11
 have x_0 := hrx.next hw_t11
 cases hk : workB z l a ws
 ·
  have HE : Hid (wputC z l a ws x = 1 ∧ wputA z l a ws = 0 ∧ wputW z l a ws x = []) := Lib.hid (by unfold wputA wputW wputC; rw [hk]; exact ⟨rfl, rfl, rfl⟩)
  have qBv0 : ((((w.alloc (.cells #[.int .i64 z, .slice A l.length c] 34)).alloc (.cells #[.int .i64 a, .slice B ws.length d] 38)).alloc (.cells #[.string x.k, .int .i64 x.n, .bool x.g] 52)).alloc (.cells #[.int .i64 0, .slice none 0 0] 38)).cell? ⟨w.heap.size, 0, none⟩ = some (.int .i64 z) := by rw [Bv_t11.cell]; rfl
  have qBv1 : ((((w.alloc (.cells #[.int .i64 z, .slice A l.length c] 34)).alloc (.cells #[.int .i64 a, .slice B ws.length d] 38)).alloc (.cells #[.string x.k, .int .i64 x.n, .bool x.g] 52)).alloc (.cells #[.int .i64 0, .slice none 0 0] 38)).cell? ⟨w.heap.size, 1, none⟩ = some (.slice A l.length c) := by rw [Bv_t11.cell]; rfl
  have qBw0 : ((((w.alloc (.cells #[.int .i64 z, .slice A l.length c] 34)).alloc (.cells #[.int .i64 a, .slice B ws.length d] 38)).alloc (.cells #[.string x.k, .int .i64 x.n, .bool x.g] 52)).alloc (.cells #[.int .i64 0, .slice none 0 0] 38)).cell? ⟨w.heap.size + 1, 0, none⟩ = some (.int .i64 a) := by rw [Bw_t11.cell]; rfl
  have qBw1 : ((((w.alloc (.cells #[.int .i64 z, .slice A l.length c] 34)).alloc (.cells #[.int .i64 a, .slice B ws.length d] 38)).alloc (.cells #[.string x.k, .int .i64 x.n, .bool x.g] 52)).alloc (.cells #[.int .i64 0, .slice none 0 0] 38)).cell? ⟨w.heap.size + 1, 1, none⟩ = some (.slice B ws.length d) := by rw [Bw_t11.cell]; rfl
  have qBx0 : ((((w.alloc (.cells #[.int .i64 z, .slice A l.length c] 34)).alloc (.cells #[.int .i64 a, .slice B ws.length d] 38)).alloc (.cells #[.string x.k, .int .i64 x.n, .bool x.g] 52)).alloc (.cells #[.int .i64 0, .slice none 0 0] 38)).cell? ⟨w.heap.size + 2, 0, none⟩ = some (.string x.k) := by rw [Bx_t11.cell]; rfl
  have qBx1 : ((((w.alloc (.cells #[.int .i64 z, .slice A l.length c] 34)).alloc (.cells #[.int .i64 a, .slice B ws.length d] 38)).alloc (.cells #[.string x.k, .int .i64 x.n, .bool x.g] 52)).alloc (.cells #[.int .i64 0, .slice none 0 0] 38)).cell? ⟨w.heap.size + 2, 1, none⟩ = some (.int .i64 x.n) := by rw [Bx_t11.cell]; rfl
  have qBx2 : ((((w.alloc (.cells #[.int .i64 z, .slice A l.length c] 34)).alloc (.cells #[.int .i64 a, .slice B ws.length d] 38)).alloc (.cells #[.string x.k, .int .i64 x.n, .bool x.g] 52)).alloc (.cells #[.int .i64 0, .slice none 0 0] 38)).cell? ⟨w.heap.size + 2, 2, none⟩ = some (.bool x.g) := by rw [Bx_t11.cell]; rfl
  have qRt0 : ((((w.alloc (.cells #[.int .i64 z, .slice A l.length c] 34)).alloc (.cells #[.int .i64 a, .slice B ws.length d] 38)).alloc (.cells #[.string x.k, .int .i64 x.n, .bool x.g] 52)).alloc (.cells #[.int .i64 0, .slice none 0 0] 38)).cell? ⟨w.heap.size + 3, 0, none⟩ = some (.int .i64 0) := by rw [Rt_t10.cell]; rfl
  have qRt1 : ((((w.alloc (.cells #[.int .i64 z, .slice A l.length c] 34)).alloc (.cells #[.int .i64 a, .slice B ws.length d] 38)).alloc (.cells #[.string x.k, .int .i64 x.n, .bool x.g] 52)).alloc (.cells #[.int .i64 0, .slice none 0 0] 38)).cell? ⟨w.heap.size + 3, 1, none⟩ = some (.slice none 0 0) := by rw [Rt_t10.cell]; rfl
  go_wp2_with fail
  clear qBv0 qBv1 qBw0 qBw1 qBx0 qBx1 qBx2 qRt0 qRt1
  refine (implWorkOk z A c l a B d ws _ hf hc hm hl hfx hd hmd hlx v_0 x_0).mono ?_
  rintro e w1 ⟨rfl, hb1⟩
  rw [hk]
  have v_t13 := v_0.next hb1
  clear v_0
  have x_t13 := x_0.next hb1
  clear x_0
  have Bv_t13 := Bv_t11.next hb1
  clear Bv_t11
  have Bw_t13 := Bw_t11.next hb1
  clear Bw_t11
  have Bx_t13 := Bx_t11.next hb1
  clear Bx_t11
  have Rt_t13 := Rt_t10.next hb1
  clear Rt_t10
  have hw_t13 := below_next hw_t11 hb1
  have hs_t13 := hb1.size
  have qBv0 : w1.cell? ⟨w.heap.size, 0, none⟩ = some (.int .i64 z) := by rw [Bv_t13.cell]; rfl
  have qBv1 : w1.cell? ⟨w.heap.size, 1, none⟩ = some (.slice A l.length c) := by rw [Bv_t13.cell]; rfl
  have qBw0 : w1.cell? ⟨w.heap.size + 1, 0, none⟩ = some (.int .i64 a) := by rw [Bw_t13.cell]; rfl
  have qBw1 : w1.cell? ⟨w.heap.size + 1, 1, none⟩ = some (.slice B ws.length d) := by rw [Bw_t13.cell]; rfl
  have qBx0 : w1.cell? ⟨w.heap.size + 2, 0, none⟩ = some (.string x.k) := by rw [Bx_t13.cell]; rfl
  have qBx1 : w1.cell? ⟨w.heap.size + 2, 1, none⟩ = some (.int .i64 x.n) := by rw [Bx_t13.cell]; rfl
  have qBx2 : w1.cell? ⟨w.heap.size + 2, 2, none⟩ = some (.bool x.g) := by rw [Bx_t13.cell]; rfl
  have qRt0 : w1.cell? ⟨w.heap.size + 3, 0, none⟩ = some (.int .i64 0) := by rw [Rt_t13.cell]; rfl
  have qRt1 : w1.cell? ⟨w.heap.size + 3, 1, none⟩ = some (.slice none 0 0) := by rw [Rt_t13.cell]; rfl
  have d0 := qRt0
  have d1 := qRt1
  have fz0 := Rt_t13.free 0
  have fz1 := Rt_t13.free 1
  go_wp2
  refine bodyPost_ret (v := .tuple #[.agg #[.int .i64 0, .slice none 0 0], .int .i64 1]) (by simp [results, Tryz.results32, go_sem, d0, d1]) rfl ?_
  refine ⟨.slice none 0 0, (by first | (rw [HE.out.1, HE.out.2.1]; done) | (rw [HE.out.1, HE.out.2.1]; rfl)), ?_, ?_⟩
  ·
   rw [HE.out.2.2]; exact OwnG.nil _ _
  ·
   exact (hw_t13.setCell (show w.heap.size ≤ w.heap.size + 3 from by omega) _).setCell (show w.heap.size ≤ w.heap.size + 3 from by omega) _
 ·
  have hP := workB_iff.1 hk
  have hlw := hP.wr.len
  have hll := hP.vers.len
  have HAS := Lib.hid hP.wr.ascW
  have HKL := Lib.hid hP.vers.ord2.keyLe
  have HO := Lib.hid hP.vers.ord2
  have HV : Hid (∀ x ∈ l, verB z x = true) := Lib.hid (fun x hx => by obtain ⟨i, hi, rfl⟩ := List.getElem_of_mem hx; exact hP.vers.each i hi)
  clear hP
  have HA : Hid (wputA z l a ws = a) := Lib.hid (by unfold wputA; rw [hk]; rfl)
  have qBv0 : ((((w.alloc (.cells #[.int .i64 z, .slice A l.length c] 34)).alloc (.cells #[.int .i64 a, .slice B ws.length d] 38)).alloc (.cells #[.string x.k, .int .i64 x.n, .bool x.g] 52)).alloc (.cells #[.int .i64 0, .slice none 0 0] 38)).cell? ⟨w.heap.size, 0, none⟩ = some (.int .i64 z) := by rw [Bv_t11.cell]; rfl
  have qBv1 : ((((w.alloc (.cells #[.int .i64 z, .slice A l.length c] 34)).alloc (.cells #[.int .i64 a, .slice B ws.length d] 38)).alloc (.cells #[.string x.k, .int .i64 x.n, .bool x.g] 52)).alloc (.cells #[.int .i64 0, .slice none 0 0] 38)).cell? ⟨w.heap.size, 1, none⟩ = some (.slice A l.length c) := by rw [Bv_t11.cell]; rfl
  have qBw0 : ((((w.alloc (.cells #[.int .i64 z, .slice A l.length c] 34)).alloc (.cells #[.int .i64 a, .slice B ws.length d] 38)).alloc (.cells #[.string x.k, .int .i64 x.n, .bool x.g] 52)).alloc (.cells #[.int .i64 0, .slice none 0 0] 38)).cell? ⟨w.heap.size + 1, 0, none⟩ = some (.int .i64 a) := by rw [Bw_t11.cell]; rfl
  have qBw1 : ((((w.alloc (.cells #[.int .i64 z, .slice A l.length c] 34)).alloc (.cells #[.int .i64 a, .slice B ws.length d] 38)).alloc (.cells #[.string x.k, .int .i64 x.n, .bool x.g] 52)).alloc (.cells #[.int .i64 0, .slice none 0 0] 38)).cell? ⟨w.heap.size + 1, 1, none⟩ = some (.slice B ws.length d) := by rw [Bw_t11.cell]; rfl
  have qBx0 : ((((w.alloc (.cells #[.int .i64 z, .slice A l.length c] 34)).alloc (.cells #[.int .i64 a, .slice B ws.length d] 38)).alloc (.cells #[.string x.k, .int .i64 x.n, .bool x.g] 52)).alloc (.cells #[.int .i64 0, .slice none 0 0] 38)).cell? ⟨w.heap.size + 2, 0, none⟩ = some (.string x.k) := by rw [Bx_t11.cell]; rfl
  have qBx1 : ((((w.alloc (.cells #[.int .i64 z, .slice A l.length c] 34)).alloc (.cells #[.int .i64 a, .slice B ws.length d] 38)).alloc (.cells #[.string x.k, .int .i64 x.n, .bool x.g] 52)).alloc (.cells #[.int .i64 0, .slice none 0 0] 38)).cell? ⟨w.heap.size + 2, 1, none⟩ = some (.int .i64 x.n) := by rw [Bx_t11.cell]; rfl
  have qBx2 : ((((w.alloc (.cells #[.int .i64 z, .slice A l.length c] 34)).alloc (.cells #[.int .i64 a, .slice B ws.length d] 38)).alloc (.cells #[.string x.k, .int .i64 x.n, .bool x.g] 52)).alloc (.cells #[.int .i64 0, .slice none 0 0] 38)).cell? ⟨w.heap.size + 2, 2, none⟩ = some (.bool x.g) := by rw [Bx_t11.cell]; rfl
  have qRt0 : ((((w.alloc (.cells #[.int .i64 z, .slice A l.length c] 34)).alloc (.cells #[.int .i64 a, .slice B ws.length d] 38)).alloc (.cells #[.string x.k, .int .i64 x.n, .bool x.g] 52)).alloc (.cells #[.int .i64 0, .slice none 0 0] 38)).cell? ⟨w.heap.size + 3, 0, none⟩ = some (.int .i64 0) := by rw [Rt_t10.cell]; rfl
  have qRt1 : ((((w.alloc (.cells #[.int .i64 z, .slice A l.length c] 34)).alloc (.cells #[.int .i64 a, .slice B ws.length d] 38)).alloc (.cells #[.string x.k, .int .i64 x.n, .bool x.g] 52)).alloc (.cells #[.int .i64 0, .slice none 0 0] 38)).cell? ⟨w.heap.size + 3, 1, none⟩ = some (.slice none 0 0) := by rw [Rt_t10.cell]; rfl
  go_wp2_with fail
  clear qBv0 qBv1 qBw0 qBw1 qBx0 qBx1 qBx2 qRt0 qRt1
  refine (implWorkOk z A c l a B d ws _ hf hc hm hl hfx hd hmd hlx v_0 x_0).mono ?_
  rintro e w1 ⟨rfl, hb1⟩
  rw [hk]
  have v_t13 := v_0.next hb1
  clear v_0
  have x_t13 := x_0.next hb1
  clear x_0
  have Bv_t13 := Bv_t11.next hb1
  clear Bv_t11
  have Bw_t13 := Bw_t11.next hb1
  clear Bw_t11
  have Bx_t13 := Bx_t11.next hb1
  clear Bx_t11
  have Rt_t13 := Rt_t10.next hb1
  clear Rt_t10
  have hw_t13 := below_next hw_t11 hb1
  have hs_t13 := hb1.size
  cases hw1 : writeB x
  ·
   have HE : Hid (wputC z l a ws x = 1 ∧ wputA z l a ws = a ∧ wputW z l a ws x = ws) := Lib.hid (by
    have hC : wputC z l a ws x = 1 := by unfold wputC; rw [hk, writesB_one, hw1]; rfl
    exact ⟨hC, HA.out, by unfold wputW; rw [hk, hC]; rfl⟩)
   have qBv0 : w1.cell? ⟨w.heap.size, 0, none⟩ = some (.int .i64 z) := by rw [Bv_t13.cell]; rfl
   have qBv1 : w1.cell? ⟨w.heap.size, 1, none⟩ = some (.slice A l.length c) := by rw [Bv_t13.cell]; rfl
   have qBw0 : w1.cell? ⟨w.heap.size + 1, 0, none⟩ = some (.int .i64 a) := by rw [Bw_t13.cell]; rfl
   have qBw1 : w1.cell? ⟨w.heap.size + 1, 1, none⟩ = some (.slice B ws.length d) := by rw [Bw_t13.cell]; rfl
   have qBx0 : w1.cell? ⟨w.heap.size + 2, 0, none⟩ = some (.string x.k) := by rw [Bx_t13.cell]; rfl
   have qBx1 : w1.cell? ⟨w.heap.size + 2, 1, none⟩ = some (.int .i64 x.n) := by rw [Bx_t13.cell]; rfl
   have qBx2 : w1.cell? ⟨w.heap.size + 2, 2, none⟩ = some (.bool x.g) := by rw [Bx_t13.cell]; rfl
   have qRt0 : w1.cell? ⟨w.heap.size + 3, 0, none⟩ = some (.int .i64 0) := by rw [Rt_t13.cell]; rfl
   have qRt1 : w1.cell? ⟨w.heap.size + 3, 1, none⟩ = some (.slice none 0 0) := by rw [Rt_t13.cell]; rfl
   go_wp2_with fail
   clear qBv0 qBv1 qBw0 qBw1 qBx0 qBx1 qBx2 qRt0 qRt1
   refine (implWrite x _ hxk).mono ?_
   rintro e w2 ⟨rfl, hb2⟩
   rw [hw1]
   have v_t15 := v_t13.next hb2
   clear v_t13
   have x_t15 := x_t13.next hb2
   clear x_t13
   have Bv_t15 := Bv_t13.next hb2
   clear Bv_t13
   have Bw_t15 := Bw_t13.next hb2
   clear Bw_t13
   have Bx_t15 := Bx_t13.next hb2
   clear Bx_t13
   have Rt_t15 := Rt_t13.next hb2
   clear Rt_t13
   have hw_t15 := below_next hw_t13 hb2
   have hs_t15 := hb2.size
   have hgl_t17 := Rt_t15.lt
   have qBv0 : w2.cell? ⟨w.heap.size, 0, none⟩ = some (.int .i64 z) := by rw [Bv_t15.cell]; rfl
   have qBv1 : w2.cell? ⟨w.heap.size, 1, none⟩ = some (.slice A l.length c) := by rw [Bv_t15.cell]; rfl
   have qBw0 : w2.cell? ⟨w.heap.size + 1, 0, none⟩ = some (.int .i64 a) := by rw [Bw_t15.cell]; rfl
   have qBw1 : w2.cell? ⟨w.heap.size + 1, 1, none⟩ = some (.slice B ws.length d) := by rw [Bw_t15.cell]; rfl
   have qBx0 : w2.cell? ⟨w.heap.size + 2, 0, none⟩ = some (.string x.k) := by rw [Bx_t15.cell]; rfl
   have qBx1 : w2.cell? ⟨w.heap.size + 2, 1, none⟩ = some (.int .i64 x.n) := by rw [Bx_t15.cell]; rfl
   have qBx2 : w2.cell? ⟨w.heap.size + 2, 2, none⟩ = some (.bool x.g) := by rw [Bx_t15.cell]; rfl
   have qRt0 : w2.cell? ⟨w.heap.size + 3, 0, none⟩ = some (.int .i64 0) := by rw [Rt_t15.cell]; rfl
   have qRt1 : w2.cell? ⟨w.heap.size + 3, 1, none⟩ = some (.slice none 0 0) := by rw [Rt_t15.cell]; rfl
   go_wp2_with fail
   clear qBv0 qBv1 qBw0 qBw1 qBx0 qBx1 qBx2 qRt0 qRt1
   refine (copyWork_c a B d ws _ (by omega) x_t15).mono ?_
   rintro e w3 ⟨Vy, rfl, y_n, hb3⟩
   have HNy : Hid (∀ k, Vy.ownBlock = some k → k ≠ w.heap.size + 3) := Lib.hid (fun k hk => by have := (y_n.block_lt hk).1; omega)
   obtain ⟨ady, cy, rfl, ry1_y, ry2_y, ry3_y⟩ := y_n.read
   clear ry1_y ry2_y ry3_y
   have v_t18 := v_t15.next hb3
   clear v_t15
   have x_t18 := x_t15.next hb3
   clear x_t15
   have Bv_t18 := Bv_t15.next hb3
   clear Bv_t15
   have Bw_t18 := Bw_t15.next hb3
   clear Bw_t15
   have Bx_t18 := Bx_t15.next hb3
   clear Bx_t15
   have Rt_t18 := Rt_t15.next hb3
   clear Rt_t15
   have hw_t18 := below_next hw_t15 hb3
   have hs_t18 := hb3.size
   have qBv0 : w3.cell? ⟨w.heap.size, 0, none⟩ = some (.int .i64 z) := by rw [Bv_t18.cell]; rfl
   have qBv1 : w3.cell? ⟨w.heap.size, 1, none⟩ = some (.slice A l.length c) := by rw [Bv_t18.cell]; rfl
   have qBw0 : w3.cell? ⟨w.heap.size + 1, 0, none⟩ = some (.int .i64 a) := by rw [Bw_t18.cell]; rfl
   have qBw1 : w3.cell? ⟨w.heap.size + 1, 1, none⟩ = some (.slice B ws.length d) := by rw [Bw_t18.cell]; rfl
   have qBx0 : w3.cell? ⟨w.heap.size + 2, 0, none⟩ = some (.string x.k) := by rw [Bx_t18.cell]; rfl
   have qBx1 : w3.cell? ⟨w.heap.size + 2, 1, none⟩ = some (.int .i64 x.n) := by rw [Bx_t18.cell]; rfl
   have qBx2 : w3.cell? ⟨w.heap.size + 2, 2, none⟩ = some (.bool x.g) := by rw [Bx_t18.cell]; rfl
   have qRt0 : w3.cell? ⟨w.heap.size + 3, 0, none⟩ = some (.int .i64 0) := by rw [Rt_t18.cell]; rfl
   have qRt1 : w3.cell? ⟨w.heap.size + 3, 1, none⟩ = some (.slice none 0 0) := by rw [Rt_t18.cell]; rfl
   have d0 := qRt0
   have d1 := qRt1
   have fz0 := Rt_t18.free 0
   have fz1 := Rt_t18.free 1
   go_wp2
   refine bodyPost_ret (v := .tuple #[.agg #[.int .i64 a, .slice ady ws.length cy], .int .i64 1]) (by simp [results, Tryz.results32, go_sem, d0, d1]) rfl ?_
   refine ⟨.slice ady ws.length cy, (by first | (rw [HE.out.1, HE.out.2.1]; done) | (rw [HE.out.1, HE.out.2.1]; rfl)), ?_, ?_⟩
   ·
    have hne : ∀ k, (.slice ady ws.length cy : Value).ownBlock = some k → k ≠ w.heap.size + 3 := HNy.out
    rw [HE.out.2.2]
    exact ((y_n.setCell (a := ⟨w.heap.size + 3, 0, none⟩) hne _).setCell (a := ⟨w.heap.size + 3, 1, none⟩) hne _).low (by omega)
   ·
    exact (hw_t18.setCell (show w.heap.size ≤ w.heap.size + 3 from by omega) _).setCell (show w.heap.size ≤ w.heap.size + 3 from by omega) _
  ·
   obtain ⟨L0, HL0⟩ : ∃ L0, Hid (lastL l x.k = L0) := ⟨_, Lib.hid rfl⟩
   have qBv0 : w1.cell? ⟨w.heap.size, 0, none⟩ = some (.int .i64 z) := by rw [Bv_t13.cell]; rfl
   have qBv1 : w1.cell? ⟨w.heap.size, 1, none⟩ = some (.slice A l.length c) := by rw [Bv_t13.cell]; rfl
   have qBw0 : w1.cell? ⟨w.heap.size + 1, 0, none⟩ = some (.int .i64 a) := by rw [Bw_t13.cell]; rfl
   have qBw1 : w1.cell? ⟨w.heap.size + 1, 1, none⟩ = some (.slice B ws.length d) := by rw [Bw_t13.cell]; rfl
   have qBx0 : w1.cell? ⟨w.heap.size + 2, 0, none⟩ = some (.string x.k) := by rw [Bx_t13.cell]; rfl
   have qBx1 : w1.cell? ⟨w.heap.size + 2, 1, none⟩ = some (.int .i64 x.n) := by rw [Bx_t13.cell]; rfl
   have qBx2 : w1.cell? ⟨w.heap.size + 2, 2, none⟩ = some (.bool x.g) := by rw [Bx_t13.cell]; rfl
   have qRt0 : w1.cell? ⟨w.heap.size + 3, 0, none⟩ = some (.int .i64 0) := by rw [Rt_t13.cell]; rfl
   have qRt1 : w1.cell? ⟨w.heap.size + 3, 1, none⟩ = some (.slice none 0 0) := by rw [Rt_t13.cell]; rfl
   go_wp2_with fail
   clear qBv0 qBv1 qBw0 qBw1 qBx0 qBx1 qBx2 qRt0 qRt1
   refine (implWrite x _ hxk).mono ?_
   rintro e w2 ⟨rfl, hb2⟩
   rw [hw1]
   have v_t15 := v_t13.next hb2
   clear v_t13
   have x_t15 := x_t13.next hb2
   clear x_t13
   have Bv_t15 := Bv_t13.next hb2
   clear Bv_t13
   have Bw_t15 := Bw_t13.next hb2
   clear Bw_t13
   have Bx_t15 := Bx_t13.next hb2
   clear Bx_t13
   have Rt_t15 := Rt_t13.next hb2
   clear Rt_t13
   have hw_t15 := below_next hw_t13 hb2
   have hs_t15 := hb2.size
   by_cases hlate : a < L0
   ·
    have hdl : decide (a < L0) = true := decide_eq_true hlate
    have HE : Hid (wputC z l a ws x = 2 ∧ wputA z l a ws = a ∧ wputW z l a ws x = ws) := Lib.hid (by
     have hC : wputC z l a ws x = 2 := by unfold wputC; rw [hk, writesB_one, hw1, HL0.out, if_pos rfl, if_pos rfl, if_pos hlate]
     exact ⟨hC, HA.out, by unfold wputW; rw [hk, hC]; rfl⟩)
    have qBv0 : w2.cell? ⟨w.heap.size, 0, none⟩ = some (.int .i64 z) := by rw [Bv_t15.cell]; rfl
    have qBv1 : w2.cell? ⟨w.heap.size, 1, none⟩ = some (.slice A l.length c) := by rw [Bv_t15.cell]; rfl
    have qBw0 : w2.cell? ⟨w.heap.size + 1, 0, none⟩ = some (.int .i64 a) := by rw [Bw_t15.cell]; rfl
    have qBw1 : w2.cell? ⟨w.heap.size + 1, 1, none⟩ = some (.slice B ws.length d) := by rw [Bw_t15.cell]; rfl
    have qBx0 : w2.cell? ⟨w.heap.size + 2, 0, none⟩ = some (.string x.k) := by rw [Bx_t15.cell]; rfl
    have qBx1 : w2.cell? ⟨w.heap.size + 2, 1, none⟩ = some (.int .i64 x.n) := by rw [Bx_t15.cell]; rfl
    have qBx2 : w2.cell? ⟨w.heap.size + 2, 2, none⟩ = some (.bool x.g) := by rw [Bx_t15.cell]; rfl
    have qRt0 : w2.cell? ⟨w.heap.size + 3, 0, none⟩ = some (.int .i64 0) := by rw [Rt_t15.cell]; rfl
    have qRt1 : w2.cell? ⟨w.heap.size + 3, 1, none⟩ = some (.slice none 0 0) := by rw [Rt_t15.cell]; rfl
    go_wp2
    clear qBv0 qBv1 qBw0 qBw1 qBx0 qBx1 qBx2 qRt0 qRt1
    have hb_t17 : Below w2.heap.size w2 w2.drew := (Below.refl _ _).drew
    have v_t18 := v_t15.next hb_t17
    clear v_t15
    have x_t18 := x_t15.next hb_t17
    clear x_t15
    have Bv_t18 := Bv_t15.next hb_t17
    clear Bv_t15
    have Bw_t18 := Bw_t15.next hb_t17
    clear Bw_t15
    have Bx_t18 := Bx_t15.next hb_t17
    clear Bx_t15
    have Rt_t18 := Rt_t15.next hb_t17
    clear Rt_t15
    have hw_t18 := below_next hw_t15 hb_t17
    have hs_t18 := hb_t17.size
    refine wp_region_held_drew (S := (fun W => W.cell? ⟨w.heap.size, 0, none⟩ = some (.int .i64 z) ∧ W.cell? ⟨w.heap.size, 1, none⟩ = some (.slice A l.length c) ∧ W.cell? ⟨w.heap.size + 1, 0, none⟩ = some (.int .i64 a) ∧ W.cell? ⟨w.heap.size + 1, 1, none⟩ = some (.slice B ws.length d) ∧ W.cell? ⟨w.heap.size + 2, 0, none⟩ = some (.string x.k) ∧ W.cell? ⟨w.heap.size + 2, 1, none⟩ = some (.int .i64 x.n) ∧ W.cell? ⟨w.heap.size + 2, 2, none⟩ = some (.bool x.g) ∧ W.cell? ⟨w.heap.size + 3, 0, none⟩ = some (.int .i64 0) ∧ W.cell? ⟨w.heap.size + 3, 1, none⟩ = some (.slice none 0 0))) (by kernel_rfl) ?_ (fun hHeld => ?_)
    focus ((try dsimp only); (exact ⟨by rw [Bv_t18.cell]; rfl, by rw [Bv_t18.cell]; rfl, by rw [Bw_t18.cell]; rfl, by rw [Bw_t18.cell]; rfl, by rw [Bx_t18.cell]; rfl, by rw [Bx_t18.cell]; rfl, by rw [Bx_t18.cell]; rfl, by rw [Rt_t18.cell]; rfl, by rw [Rt_t18.cell]; rfl⟩))
    refine tk 0 ?_
    refine tk 1 ?_
    refine tk 3 ?_
    refine tk 4 ?_
    (refine rd1 2 (fun K hK => ?_); go_simp; (go_at_call 63; have Bv_o := Lib.hid Bv_t18; have Bw_o := Lib.hid Bw_t18; have Bx_o := Lib.hid Bx_t18; have Rt_o := Lib.hid Rt_t18; have v_o := Lib.hid v_t18; have x_o := Lib.hid x_t18; have hw_o := hw_t18; refine (storageOf_c z A c l _ (by omega) HKL.out v_t18).mono ?_; rintro e w3 ⟨s, chs, rfl, S_n, hC, hb3⟩; have hCl := hC.length; have v_t20 := v_t18.next hb3; clear v_t18; have x_t20 := x_t18.next hb3; clear x_t18; have Bv_t20 := Bv_t18.next hb3; clear Bv_t18; have Bw_t20 := Bw_t18.next hb3; clear Bw_t18; have Bx_t20 := Bx_t18.next hb3; clear Bx_t18; have Rt_t20 := Rt_t18.next hb3; clear Rt_t18; have hw_t20 := below_next hw_t18 hb3; have hs_t20 := hb3.size); go_wp2_with fail; refine hK.out _ _ ?_ (fun hHeld => ?_); (focus ((try dsimp only); (exact ⟨by rw [Bv_t20.cell]; rfl, by rw [Bv_t20.cell]; rfl, by rw [Bw_t20.cell]; rfl, by rw [Bw_t20.cell]; rfl, by rw [Bx_t20.cell]; rfl, by rw [Bx_t20.cell]; rfl, by rw [Bx_t20.cell]; rfl, by rw [Rt_t20.cell]; rfl, by rw [Rt_t20.cell]; rfl⟩))); clear hK K; (try simp only [Act.put, pa, pb, pc]))
    (refine rd1 5 (fun K hK => ?_); go_simp; (go_at_call 76; refine (late_c _ s z a chs l B ws.length d x.k _ S_n (hC.toF HO.out) HV.out (by omega)).mono ?_; rintro e w4 ⟨rfl, ch3, hS3, hCF3, hCl3, hbl4⟩; rw [HL0.out]; clear hS3 hCF3 hCl3; have hbA4 := hb3.trans hbl4; clear S_n; have Bv_t22 := Bv_o.out.next hbA4; have Bw_t22 := Bw_o.out.next hbA4; have Bx_t22 := Bx_o.out.next hbA4; have Rt_t22 := Rt_o.out.next hbA4; have v_t22 := v_o.out.next hbA4; have x_t22 := x_o.out.next hbA4; have hw_t22 := below_next hw_o hbA4; have hs_t22 := hbA4.size; clear Bv_t20 Bw_t20 Bx_t20 Rt_t20 v_t20 x_t20); go_wp2_with fail; refine hK.out _ _ ?_ (fun hHeld => ?_); (focus ((try dsimp only); (exact ⟨by rw [Bv_t22.cell]; rfl, by rw [Bv_t22.cell]; rfl, by rw [Bw_t22.cell]; rfl, by rw [Bw_t22.cell]; rfl, by rw [Bx_t22.cell]; rfl, by rw [Bx_t22.cell]; rfl, by rw [Bx_t22.cell]; rfl, by rw [Rt_t22.cell]; rfl, by rw [Rt_t22.cell]; rfl⟩))); clear hK K; (try simp only [Act.put, pa, pb, pc]))
    refine wpAnyH_done (by kernel_rfl) ?_ _
    have hgl_t23 := Rt_t22.lt
    have qBv0 : w4.cell? ⟨w.heap.size, 0, none⟩ = some (.int .i64 z) := by rw [Bv_t22.cell]; rfl
    have qBv1 : w4.cell? ⟨w.heap.size, 1, none⟩ = some (.slice A l.length c) := by rw [Bv_t22.cell]; rfl
    have qBw0 : w4.cell? ⟨w.heap.size + 1, 0, none⟩ = some (.int .i64 a) := by rw [Bw_t22.cell]; rfl
    have qBw1 : w4.cell? ⟨w.heap.size + 1, 1, none⟩ = some (.slice B ws.length d) := by rw [Bw_t22.cell]; rfl
    have qBx0 : w4.cell? ⟨w.heap.size + 2, 0, none⟩ = some (.string x.k) := by rw [Bx_t22.cell]; rfl
    have qBx1 : w4.cell? ⟨w.heap.size + 2, 1, none⟩ = some (.int .i64 x.n) := by rw [Bx_t22.cell]; rfl
    have qBx2 : w4.cell? ⟨w.heap.size + 2, 2, none⟩ = some (.bool x.g) := by rw [Bx_t22.cell]; rfl
    have qRt0 : w4.cell? ⟨w.heap.size + 3, 0, none⟩ = some (.int .i64 0) := by rw [Rt_t22.cell]; rfl
    have qRt1 : w4.cell? ⟨w.heap.size + 3, 1, none⟩ = some (.slice none 0 0) := by rw [Rt_t22.cell]; rfl
    go_wp2_with fail
    clear qBv0 qBv1 qBw0 qBw1 qBx0 qBx1 qBx2 qRt0 qRt1
    refine (copyWork_c a B d ws _ (by omega) x_t22).mono ?_
    rintro e w5 ⟨Vy, rfl, y_n, hb5⟩
    have HNy : Hid (∀ k, Vy.ownBlock = some k → k ≠ w.heap.size + 3) := Lib.hid (fun k hk => by have := (y_n.block_lt hk).1; omega)
    obtain ⟨ady, cy, rfl, ry1_y, ry2_y, ry3_y⟩ := y_n.read
    clear ry1_y ry2_y ry3_y
    have v_t24 := v_t22.next hb5
    clear v_t22
    have x_t24 := x_t22.next hb5
    clear x_t22
    have Bv_t24 := Bv_t22.next hb5
    clear Bv_t22
    have Bw_t24 := Bw_t22.next hb5
    clear Bw_t22
    have Bx_t24 := Bx_t22.next hb5
    clear Bx_t22
    have Rt_t24 := Rt_t22.next hb5
    clear Rt_t22
    have hw_t24 := below_next hw_t22 hb5
    have hs_t24 := hb5.size
    have qBv0 : w5.cell? ⟨w.heap.size, 0, none⟩ = some (.int .i64 z) := by rw [Bv_t24.cell]; rfl
    have qBv1 : w5.cell? ⟨w.heap.size, 1, none⟩ = some (.slice A l.length c) := by rw [Bv_t24.cell]; rfl
    have qBw0 : w5.cell? ⟨w.heap.size + 1, 0, none⟩ = some (.int .i64 a) := by rw [Bw_t24.cell]; rfl
    have qBw1 : w5.cell? ⟨w.heap.size + 1, 1, none⟩ = some (.slice B ws.length d) := by rw [Bw_t24.cell]; rfl
    have qBx0 : w5.cell? ⟨w.heap.size + 2, 0, none⟩ = some (.string x.k) := by rw [Bx_t24.cell]; rfl
    have qBx1 : w5.cell? ⟨w.heap.size + 2, 1, none⟩ = some (.int .i64 x.n) := by rw [Bx_t24.cell]; rfl
    have qBx2 : w5.cell? ⟨w.heap.size + 2, 2, none⟩ = some (.bool x.g) := by rw [Bx_t24.cell]; rfl
    have qRt0 : w5.cell? ⟨w.heap.size + 3, 0, none⟩ = some (.int .i64 0) := by rw [Rt_t24.cell]; rfl
    have qRt1 : w5.cell? ⟨w.heap.size + 3, 1, none⟩ = some (.slice none 0 0) := by rw [Rt_t24.cell]; rfl
    have d0 := qRt0
    have d1 := qRt1
    have fz0 := Rt_t24.free 0
    have fz1 := Rt_t24.free 1
    go_wp2
    refine bodyPost_ret (v := .tuple #[.agg #[.int .i64 a, .slice ady ws.length cy], .int .i64 2]) (by simp [results, Tryz.results32, go_sem, d0, d1]) rfl ?_
    refine ⟨.slice ady ws.length cy, (by first | (rw [HE.out.1, HE.out.2.1]; done) | (rw [HE.out.1, HE.out.2.1]; rfl)), ?_, ?_⟩
    ·
     have hne : ∀ k, (.slice ady ws.length cy : Value).ownBlock = some k → k ≠ w.heap.size + 3 := HNy.out
     rw [HE.out.2.2]
     exact ((y_n.setCell (a := ⟨w.heap.size + 3, 0, none⟩) hne _).setCell (a := ⟨w.heap.size + 3, 1, none⟩) hne _).low (by omega)
    ·
     exact (hw_t24.setCell (show w.heap.size ≤ w.heap.size + 3 from by omega) _).setCell (show w.heap.size ≤ w.heap.size + 3 from by omega) _
   ·
    have hdl : decide (a < L0) = false := decide_eq_false hlate
    have HC : Hid (wputC z l a ws x = if workB z l a (putXs ws x) then 0 else 3) := Lib.hid (by unfold wputC; rw [hk, writesB_one, hw1, HL0.out, if_pos rfl, if_pos rfl, if_neg hlate])
    have qBv0 : w2.cell? ⟨w.heap.size, 0, none⟩ = some (.int .i64 z) := by rw [Bv_t15.cell]; rfl
    have qBv1 : w2.cell? ⟨w.heap.size, 1, none⟩ = some (.slice A l.length c) := by rw [Bv_t15.cell]; rfl
    have qBw0 : w2.cell? ⟨w.heap.size + 1, 0, none⟩ = some (.int .i64 a) := by rw [Bw_t15.cell]; rfl
    have qBw1 : w2.cell? ⟨w.heap.size + 1, 1, none⟩ = some (.slice B ws.length d) := by rw [Bw_t15.cell]; rfl
    have qBx0 : w2.cell? ⟨w.heap.size + 2, 0, none⟩ = some (.string x.k) := by rw [Bx_t15.cell]; rfl
    have qBx1 : w2.cell? ⟨w.heap.size + 2, 1, none⟩ = some (.int .i64 x.n) := by rw [Bx_t15.cell]; rfl
    have qBx2 : w2.cell? ⟨w.heap.size + 2, 2, none⟩ = some (.bool x.g) := by rw [Bx_t15.cell]; rfl
    have qRt0 : w2.cell? ⟨w.heap.size + 3, 0, none⟩ = some (.int .i64 0) := by rw [Rt_t15.cell]; rfl
    have qRt1 : w2.cell? ⟨w.heap.size + 3, 1, none⟩ = some (.slice none 0 0) := by rw [Rt_t15.cell]; rfl
    go_wp2
    clear qBv0 qBv1 qBw0 qBw1 qBx0 qBx1 qBx2 qRt0 qRt1
    have hb_t17 : Below w2.heap.size w2 w2.drew := (Below.refl _ _).drew
    have v_t18 := v_t15.next hb_t17
    clear v_t15
    have x_t18 := x_t15.next hb_t17
    clear x_t15
    have Bv_t18 := Bv_t15.next hb_t17
    clear Bv_t15
    have Bw_t18 := Bw_t15.next hb_t17
    clear Bw_t15
    have Bx_t18 := Bx_t15.next hb_t17
    clear Bx_t15
    have Rt_t18 := Rt_t15.next hb_t17
    clear Rt_t15
    have hw_t18 := below_next hw_t15 hb_t17
    have hs_t18 := hb_t17.size
    refine wp_region_held_drew (S := (fun W => W.cell? ⟨w.heap.size, 0, none⟩ = some (.int .i64 z) ∧ W.cell? ⟨w.heap.size, 1, none⟩ = some (.slice A l.length c) ∧ W.cell? ⟨w.heap.size + 1, 0, none⟩ = some (.int .i64 a) ∧ W.cell? ⟨w.heap.size + 1, 1, none⟩ = some (.slice B ws.length d) ∧ W.cell? ⟨w.heap.size + 2, 0, none⟩ = some (.string x.k) ∧ W.cell? ⟨w.heap.size + 2, 1, none⟩ = some (.int .i64 x.n) ∧ W.cell? ⟨w.heap.size + 2, 2, none⟩ = some (.bool x.g) ∧ W.cell? ⟨w.heap.size + 3, 0, none⟩ = some (.int .i64 0) ∧ W.cell? ⟨w.heap.size + 3, 1, none⟩ = some (.slice none 0 0))) (by kernel_rfl) ?_ (fun hHeld => ?_)
    focus ((try dsimp only); (exact ⟨by rw [Bv_t18.cell]; rfl, by rw [Bv_t18.cell]; rfl, by rw [Bw_t18.cell]; rfl, by rw [Bw_t18.cell]; rfl, by rw [Bx_t18.cell]; rfl, by rw [Bx_t18.cell]; rfl, by rw [Bx_t18.cell]; rfl, by rw [Rt_t18.cell]; rfl, by rw [Rt_t18.cell]; rfl⟩))
    refine tk 0 ?_
    refine tk 1 ?_
    refine tk 3 ?_
    refine tk 4 ?_
    (refine rd1 2 (fun K hK => ?_); go_simp; (go_at_call 63; have Bv_o := Lib.hid Bv_t18; have Bw_o := Lib.hid Bw_t18; have Bx_o := Lib.hid Bx_t18; have Rt_o := Lib.hid Rt_t18; have v_o := Lib.hid v_t18; have x_o := Lib.hid x_t18; have hw_o := hw_t18; refine (storageOf_c z A c l _ (by omega) HKL.out v_t18).mono ?_; rintro e w3 ⟨s, chs, rfl, S_n, hC, hb3⟩; have hCl := hC.length; have v_t20 := v_t18.next hb3; clear v_t18; have x_t20 := x_t18.next hb3; clear x_t18; have Bv_t20 := Bv_t18.next hb3; clear Bv_t18; have Bw_t20 := Bw_t18.next hb3; clear Bw_t18; have Bx_t20 := Bx_t18.next hb3; clear Bx_t18; have Rt_t20 := Rt_t18.next hb3; clear Rt_t18; have hw_t20 := below_next hw_t18 hb3; have hs_t20 := hb3.size); go_wp2_with fail; refine hK.out _ _ ?_ (fun hHeld => ?_); (focus ((try dsimp only); (exact ⟨by rw [Bv_t20.cell]; rfl, by rw [Bv_t20.cell]; rfl, by rw [Bw_t20.cell]; rfl, by rw [Bw_t20.cell]; rfl, by rw [Bx_t20.cell]; rfl, by rw [Bx_t20.cell]; rfl, by rw [Bx_t20.cell]; rfl, by rw [Rt_t20.cell]; rfl, by rw [Rt_t20.cell]; rfl⟩))); clear hK K; (try simp only [Act.put, pa, pb, pc]))
    (refine rd1 5 (fun K hK => ?_); go_simp; (go_at_call 76; refine (late_c _ s z a chs l B ws.length d x.k _ S_n (hC.toF HO.out) HV.out (by omega)).mono ?_; rintro e w4 ⟨rfl, ch3, hS3, hCF3, hCl3, hbl4⟩; rw [HL0.out]; clear hS3 hCF3 hCl3; have hbA4 := hb3.trans hbl4; clear S_n; have Bv_t22 := Bv_o.out.next hbA4; have Bw_t22 := Bw_o.out.next hbA4; have Bx_t22 := Bx_o.out.next hbA4; have Rt_t22 := Rt_o.out.next hbA4; have v_t22 := v_o.out.next hbA4; have x_t22 := x_o.out.next hbA4; have hw_t22 := below_next hw_o hbA4; have hs_t22 := hbA4.size; clear Bv_t20 Bw_t20 Bx_t20 Rt_t20 v_t20 x_t20); go_wp2_with fail; refine hK.out _ _ ?_ (fun hHeld => ?_); (focus ((try dsimp only); (exact ⟨by rw [Bv_t22.cell]; rfl, by rw [Bv_t22.cell]; rfl, by rw [Bw_t22.cell]; rfl, by rw [Bw_t22.cell]; rfl, by rw [Bx_t22.cell]; rfl, by rw [Bx_t22.cell]; rfl, by rw [Bx_t22.cell]; rfl, by rw [Rt_t22.cell]; rfl, by rw [Rt_t22.cell]; rfl⟩))); clear hK K; (try simp only [Act.put, pa, pb, pc]))
    refine wpAnyH_done (by kernel_rfl) ?_ _
    have hpl := putXs_length ws x
    have hfp := FitXs.putXs hfx hx1
    have HMP := Lib.hid (mem_putXs HAS.out x)
    have HAP := Lib.hid (putXs_asc HAS.out x)
    obtain ⟨PX, HPX⟩ : ∃ PX, Hid (putXs ws x = PX) := ⟨_, Lib.hid rfl⟩
    rw [HPX.out] at hpl hfp HC HMP HAP
    obtain ⟨WB, HWB⟩ : ∃ WB, Hid (workB z l a PX = WB) := ⟨_, Lib.hid rfl⟩
    rw [HWB.out] at HC
    have qBv0 : w4.cell? ⟨w.heap.size, 0, none⟩ = some (.int .i64 z) := by rw [Bv_t22.cell]; rfl
    have qBv1 : w4.cell? ⟨w.heap.size, 1, none⟩ = some (.slice A l.length c) := by rw [Bv_t22.cell]; rfl
    have qBw0 : w4.cell? ⟨w.heap.size + 1, 0, none⟩ = some (.int .i64 a) := by rw [Bw_t22.cell]; rfl
    have qBw1 : w4.cell? ⟨w.heap.size + 1, 1, none⟩ = some (.slice B ws.length d) := by rw [Bw_t22.cell]; rfl
    have qBx0 : w4.cell? ⟨w.heap.size + 2, 0, none⟩ = some (.string x.k) := by rw [Bx_t22.cell]; rfl
    have qBx1 : w4.cell? ⟨w.heap.size + 2, 1, none⟩ = some (.int .i64 x.n) := by rw [Bx_t22.cell]; rfl
    have qBx2 : w4.cell? ⟨w.heap.size + 2, 2, none⟩ = some (.bool x.g) := by rw [Bx_t22.cell]; rfl
    have qRt0 : w4.cell? ⟨w.heap.size + 3, 0, none⟩ = some (.int .i64 0) := by rw [Rt_t22.cell]; rfl
    have qRt1 : w4.cell? ⟨w.heap.size + 3, 1, none⟩ = some (.slice none 0 0) := by rw [Rt_t22.cell]; rfl
    go_wp2_with fail
    clear qBv0 qBv1 qBw0 qBw1 qBx0 qBx1 qBx2 qRt0 qRt1
    have Bv_p := Lib.hid Bv_t22
    have Bw_p := Lib.hid Bw_t22
    have Bx_p := Lib.hid Bx_t22
    have Rt_p := Lib.hid Rt_t22
    have v_p := Lib.hid v_t22
    have x_p := Lib.hid x_t22
    have hw_p := hw_t22
    refine (bufferOf_c B d ws _ HAS.out hfx hlx x_t22).mono ?_
    rintro e w5 ⟨bb, rfl, hbb, M_n, hb5⟩
    have v_t23 := v_t22.next hb5
    clear v_t22
    have x_t23 := x_t22.next hb5
    clear x_t22
    have Bv_t23 := Bv_t22.next hb5
    clear Bv_t22
    have Bw_t23 := Bw_t22.next hb5
    clear Bw_t22
    have Bx_t23 := Bx_t22.next hb5
    clear Bx_t22
    have Rt_t23 := Rt_t22.next hb5
    clear Rt_t22
    have hw_t23 := below_next hw_t22 hb5
    have hs_t23 := hb5.size
    have qBv0 : w5.cell? ⟨w.heap.size, 0, none⟩ = some (.int .i64 z) := by rw [Bv_t23.cell]; rfl
    have qBv1 : w5.cell? ⟨w.heap.size, 1, none⟩ = some (.slice A l.length c) := by rw [Bv_t23.cell]; rfl
    have qBw0 : w5.cell? ⟨w.heap.size + 1, 0, none⟩ = some (.int .i64 a) := by rw [Bw_t23.cell]; rfl
    have qBw1 : w5.cell? ⟨w.heap.size + 1, 1, none⟩ = some (.slice B ws.length d) := by rw [Bw_t23.cell]; rfl
    have qBx0 : w5.cell? ⟨w.heap.size + 2, 0, none⟩ = some (.string x.k) := by rw [Bx_t23.cell]; rfl
    have qBx1 : w5.cell? ⟨w.heap.size + 2, 1, none⟩ = some (.int .i64 x.n) := by rw [Bx_t23.cell]; rfl
    have qBx2 : w5.cell? ⟨w.heap.size + 2, 2, none⟩ = some (.bool x.g) := by rw [Bx_t23.cell]; rfl
    have qRt0 : w5.cell? ⟨w.heap.size + 3, 0, none⟩ = some (.int .i64 0) := by rw [Rt_t23.cell]; rfl
    have qRt1 : w5.cell? ⟨w.heap.size + 3, 1, none⟩ = some (.slice none 0 0) := by rw [Rt_t23.cell]; rfl
    go_wp2_with fail
    clear qBv0 qBv1 qBw0 qBw1 qBx0 qBx1 qBx2 qRt0 qRt1
    refine (put_c bb _ ws PX x _ M_n hxk (by unfold maxLen; omega) HMP.out).mono ?_
    rintro e w6 ⟨⟨vq, rfl⟩, M_m, hcp6⟩
    have hbP6 := hb5.trans (hcp6.toBelow hb5.size (fun k hk => by omega))
    clear M_n
    have Bv_t25 := Bv_p.out.next hbP6
    have Bw_t25 := Bw_p.out.next hbP6
    have Bx_t25 := Bx_p.out.next hbP6
    have Rt_t25 := Rt_p.out.next hbP6
    have v_t25 := v_p.out.next hbP6
    have x_t25 := x_p.out.next hbP6
    have hw_t25 := below_next hw_p hbP6
    have hs_t25 := hbP6.size
    clear Bv_t23 Bw_t23 Bx_t23 Rt_t23 v_t23 x_t23
    have qBv0 : w6.cell? ⟨w.heap.size, 0, none⟩ = some (.int .i64 z) := by rw [Bv_t25.cell]; rfl
    have qBv1 : w6.cell? ⟨w.heap.size, 1, none⟩ = some (.slice A l.length c) := by rw [Bv_t25.cell]; rfl
    have qBw0 : w6.cell? ⟨w.heap.size + 1, 0, none⟩ = some (.int .i64 a) := by rw [Bw_t25.cell]; rfl
    have qBw1 : w6.cell? ⟨w.heap.size + 1, 1, none⟩ = some (.slice B ws.length d) := by rw [Bw_t25.cell]; rfl
    have qBx0 : w6.cell? ⟨w.heap.size + 2, 0, none⟩ = some (.string x.k) := by rw [Bx_t25.cell]; rfl
    have qBx1 : w6.cell? ⟨w.heap.size + 2, 1, none⟩ = some (.int .i64 x.n) := by rw [Bx_t25.cell]; rfl
    have qBx2 : w6.cell? ⟨w.heap.size + 2, 2, none⟩ = some (.bool x.g) := by rw [Bx_t25.cell]; rfl
    have qRt0 : w6.cell? ⟨w.heap.size + 3, 0, none⟩ = some (.int .i64 0) := by rw [Rt_t25.cell]; rfl
    have qRt1 : w6.cell? ⟨w.heap.size + 3, 1, none⟩ = some (.slice none 0 0) := by rw [Rt_t25.cell]; rfl
    go_wp2
    clear qBv0 qBv1 qBw0 qBw1 qBx0 qBx1 qBx2 qRt0 qRt1
    have hb_t26 : Below w6.heap.size w6 w6.drew := (Below.refl _ _).drew
    have v_t27 := v_t25.next hb_t26
    clear v_t25
    have x_t27 := x_t25.next hb_t26
    clear x_t25
    have M_t27 := M_m.next hb_t26
    clear M_m
    have Bv_t27 := Bv_t25.next hb_t26
    clear Bv_t25
    have Bw_t27 := Bw_t25.next hb_t26
    clear Bw_t25
    have Bx_t27 := Bx_t25.next hb_t26
    clear Bx_t25
    have Rt_t27 := Rt_t25.next hb_t26
    clear Rt_t25
    have hw_t27 := below_next hw_t25 hb_t26
    have hs_t27 := hb_t26.size
    refine wp_region_held_drew (S := (fun W => W.cell? ⟨w.heap.size, 0, none⟩ = some (.int .i64 z) ∧ W.cell? ⟨w.heap.size, 1, none⟩ = some (.slice A l.length c) ∧ W.cell? ⟨w.heap.size + 1, 0, none⟩ = some (.int .i64 a) ∧ W.cell? ⟨w.heap.size + 1, 1, none⟩ = some (.slice B ws.length d) ∧ W.cell? ⟨w.heap.size + 2, 0, none⟩ = some (.string x.k) ∧ W.cell? ⟨w.heap.size + 2, 1, none⟩ = some (.int .i64 x.n) ∧ W.cell? ⟨w.heap.size + 2, 2, none⟩ = some (.bool x.g) ∧ W.cell? ⟨w.heap.size + 3, 0, none⟩ = some (.int .i64 0) ∧ W.cell? ⟨w.heap.size + 3, 1, none⟩ = some (.slice none 0 0))) (by kernel_rfl) ?_ (fun hHeld => ?_)
    focus ((try dsimp only); (exact ⟨by rw [Bv_t27.cell]; rfl, by rw [Bv_t27.cell]; rfl, by rw [Bw_t27.cell]; rfl, by rw [Bw_t27.cell]; rfl, by rw [Bx_t27.cell]; rfl, by rw [Bx_t27.cell]; rfl, by rw [Bx_t27.cell]; rfl, by rw [Rt_t27.cell]; rfl, by rw [Rt_t27.cell]; rfl⟩))
    obtain ⟨wd, HWD⟩ : ∃ wd, Hid (w6.drew = wd) := ⟨_, Lib.hid rfl⟩
    rw [HWD.out] at hHeld v_t27 x_t27 M_t27 Bv_t27 Bw_t27 Bx_t27 Rt_t27 hw_t27
    rw [HWD.out]
    refine tk 0 ?_
    refine tk 1 ?_
    refine tk 2 ?_
    refine wpAnyH_ready (rs := [3, 5]) (by kernel_rfl) (by simp) (AllReadyH.cons (by (simp only [ga, gb, gc]; rfl)) (fun K hK => ?_) (AllReadyH.cons (by (simp only [ga, gb, gc]; rfl)) (fun K hK => ?_) AllReadyH.nil))
    ·
     go_simp
     go_at_call 79
     have hgl_t29 := Rt_t27.lt
     refine (list_c bb _ PX _ HAP.out hfp (by omega) M_t27).mono ?_
     rintro e w21 ⟨Vp, rfl, p_n, hb21⟩
     have HNp : Hid (∀ k, Vp.ownBlock = some k → k ≠ w.heap.size + 3) := Lib.hid (fun k hk => by have := (p_n.block_lt hk).1; omega)
     obtain ⟨adp, cp, rfl, ry1_p, ry2_p, ry3_p⟩ := p_n.read
     clear ry1_p ry2_p ry3_p
     clear M_t27
     have v_t30 := v_t27.next hb21
     clear v_t27
     have x_t30 := x_t27.next hb21
     clear x_t27
     have Bv_t30 := Bv_t27.next hb21
     clear Bv_t27
     have Bw_t30 := Bw_t27.next hb21
     clear Bw_t27
     have Bx_t30 := Bx_t27.next hb21
     clear Bx_t27
     have Rt_t30 := Rt_t27.next hb21
     clear Rt_t27
     have hw_t30 := below_next hw_t27 hb21
     have hs_t30 := hb21.size
     go_wp2_with fail
     refine hK.out _ _ ?_ (fun hHeld => ?_)
     focus ((try dsimp only); (exact ⟨by rw [Bv_t30.cell]; rfl, by rw [Bv_t30.cell]; rfl, by rw [Bw_t30.cell]; rfl, by rw [Bw_t30.cell]; rfl, by rw [Bx_t30.cell]; rfl, by rw [Bx_t30.cell]; rfl, by rw [Bx_t30.cell]; rfl, by rw [Rt_t30.cell]; rfl, by rw [Rt_t30.cell]; rfl⟩))
     clear hK K
     try simp only [Act.put, pa, pb, pc]
     refine tk 4 ?_
     refine rd1 5 (fun K hK => ?_)
     go_simp
     have hbz : Below w21.heap.size w21 (w21.alloc (.cells #[.int .i64 0, .slice none 0 0] 38)) := below_alloc (Below.refl _ _) _
     have Bv_z := Bv_t30.next hbz
     have Bw_z := Bw_t30.next hbz
     have Bx_z := Bx_t30.next hbz
     have Rt_z := Rt_t30.next hbz
     refine hK.out _ _ ?_ (fun hHeld => ?_)
     focus ((try dsimp only); (exact ⟨by rw [Bv_z.cell]; rfl, by rw [Bv_z.cell]; rfl, by rw [Bw_z.cell]; rfl, by rw [Bw_z.cell]; rfl, by rw [Bx_z.cell]; rfl, by rw [Bx_z.cell]; rfl, by rw [Bx_z.cell]; rfl, by rw [Rt_z.cell]; rfl, by rw [Rt_z.cell]; rfl⟩))
     clear hK K
     try simp only [Act.put, pa, pb, pc]
     have By_z := blkA w21 #[.int .i64 0, .slice none 0 0] 38
     have d0 : (w21.alloc (.cells #[.int .i64 0, .slice none 0 0] 38)).cell? ⟨w21.heap.size, 0, none⟩ = some (.int .i64 0) := (by rw [By_z.cell]; rfl)
     have d1 : (w21.alloc (.cells #[.int .i64 0, .slice none 0 0] 38)).cell? ⟨w21.heap.size, 1, none⟩ = some (.slice none 0 0) := (by rw [By_z.cell]; rfl)
     have f0 := By_z.free 0
     have f1 := By_z.free 1
     have hb_t32 := below_alloc (Below.refl _ w21) (.cells #[.int .i64 a, .slice adp PX.length cp] 38)
     have By_t32 := blkA w21 #[.int .i64 a, .slice adp PX.length cp] 38
     have hz_t32 : (w21.alloc (.cells #[.int .i64 a, .slice adp PX.length cp] 38)).heap.size = w21.heap.size + 1 := World.size_alloc _ _
     have v_t33 := v_t30.next hb_t32
     clear v_t30
     have x_t33 := x_t30.next hb_t32
     clear x_t30
     have p_t33 := p_n.next hb_t32
     clear p_n
     have Bv_t33 := Bv_t30.next hb_t32
     clear Bv_t30
     have Bw_t33 := Bw_t30.next hb_t32
     clear Bw_t30
     have Bx_t33 := Bx_t30.next hb_t32
     clear Bx_t30
     have Rt_t33 := Rt_t30.next hb_t32
     clear Rt_t30
     have hw_t33 := below_next hw_t30 hb_t32
     have hs_t33 := hb_t32.size
     refine rd1 6 (fun K hK => ?_)
     go_simp
     refine hK.out _ _ ?_ (fun hHeld => ?_)
     focus ((try dsimp only); (exact ⟨by rw [Bv_t33.cell]; rfl, by rw [Bv_t33.cell]; rfl, by rw [Bw_t33.cell]; rfl, by rw [Bw_t33.cell]; rfl, by rw [Bx_t33.cell]; rfl, by rw [Bx_t33.cell]; rfl, by rw [Bx_t33.cell]; rfl, by rw [Rt_t33.cell]; rfl, by rw [Rt_t33.cell]; rfl⟩))
     clear hK K d0 d1 f0 f1 By_z Bv_z Bw_z Bx_z Rt_z
     try simp only [Act.put, pa, pb, pc]
     refine wpAnyH_done (by kernel_rfl) ?_ _
     have hpd := (p_t33.rd'.2.1)
     have hpm := (p_t33.rd'.2.2.1)
     have qBv0 : (w21.alloc (.cells #[.int .i64 a, .slice adp PX.length cp] 38)).cell? ⟨w.heap.size, 0, none⟩ = some (.int .i64 z) := by rw [Bv_t33.cell]; rfl
     have qBv1 : (w21.alloc (.cells #[.int .i64 a, .slice adp PX.length cp] 38)).cell? ⟨w.heap.size, 1, none⟩ = some (.slice A l.length c) := by rw [Bv_t33.cell]; rfl
     have qBw0 : (w21.alloc (.cells #[.int .i64 a, .slice adp PX.length cp] 38)).cell? ⟨w.heap.size + 1, 0, none⟩ = some (.int .i64 a) := by rw [Bw_t33.cell]; rfl
     have qBw1 : (w21.alloc (.cells #[.int .i64 a, .slice adp PX.length cp] 38)).cell? ⟨w.heap.size + 1, 1, none⟩ = some (.slice B ws.length d) := by rw [Bw_t33.cell]; rfl
     have qBx0 : (w21.alloc (.cells #[.int .i64 a, .slice adp PX.length cp] 38)).cell? ⟨w.heap.size + 2, 0, none⟩ = some (.string x.k) := by rw [Bx_t33.cell]; rfl
     have qBx1 : (w21.alloc (.cells #[.int .i64 a, .slice adp PX.length cp] 38)).cell? ⟨w.heap.size + 2, 1, none⟩ = some (.int .i64 x.n) := by rw [Bx_t33.cell]; rfl
     have qBx2 : (w21.alloc (.cells #[.int .i64 a, .slice adp PX.length cp] 38)).cell? ⟨w.heap.size + 2, 2, none⟩ = some (.bool x.g) := by rw [Bx_t33.cell]; rfl
     have qRt0 : (w21.alloc (.cells #[.int .i64 a, .slice adp PX.length cp] 38)).cell? ⟨w.heap.size + 3, 0, none⟩ = some (.int .i64 0) := by rw [Rt_t33.cell]; rfl
     have qRt1 : (w21.alloc (.cells #[.int .i64 a, .slice adp PX.length cp] 38)).cell? ⟨w.heap.size + 3, 1, none⟩ = some (.slice none 0 0) := by rw [Rt_t33.cell]; rfl
     have qBy0 : (w21.alloc (.cells #[.int .i64 a, .slice adp PX.length cp] 38)).cell? ⟨w21.heap.size, 0, none⟩ = some (.int .i64 a) := by rw [By_t32.cell]; rfl
     have qBy1 : (w21.alloc (.cells #[.int .i64 a, .slice adp PX.length cp] 38)).cell? ⟨w21.heap.size, 1, none⟩ = some (.slice adp PX.length cp) := by rw [By_t32.cell]; rfl
     go_wp2_with fail
     clear qBv0 qBv1 qBw0 qBw1 qBx0 qBx1 qBx2 qRt0 qRt1 qBy0 qBy1
     refine (implWorkOk z A c l a adp cp PX _ hf hc hm hl hfp hpd hpm (by omega) v_t33 (p_t33.rd'.2.2.2)).mono ?_
     rintro e w7 ⟨rfl, hb7⟩
     rw [HWB.out]
     have v_t35 := v_t33.next hb7
     clear v_t33
     have x_t35 := x_t33.next hb7
     clear x_t33
     have p_t35 := p_t33.next hb7
     clear p_t33
     have Bv_t35 := Bv_t33.next hb7
     clear Bv_t33
     have Bw_t35 := Bw_t33.next hb7
     clear Bw_t33
     have Bx_t35 := Bx_t33.next hb7
     clear Bx_t33
     have Rt_t35 := Rt_t33.next hb7
     clear Rt_t33
     have By_t35 := By_t32.next hb7
     clear By_t32
     have hw_t35 := below_next hw_t33 hb7
     have hs_t35 := hb7.size
     cases hwb : WB
     ·
      subst hwb
      have HE : Hid (wputC z l a ws x = 3 ∧ wputA z l a ws = a ∧ wputW z l a ws x = ws) := Lib.hid ⟨HC.out, HA.out, by unfold wputW; rw [hk, HC.out]; rfl⟩
      clear p_t35
      have hgl_t37 := Rt_t35.lt
      have qBv0 : w7.cell? ⟨w.heap.size, 0, none⟩ = some (.int .i64 z) := by rw [Bv_t35.cell]; rfl
      have qBv1 : w7.cell? ⟨w.heap.size, 1, none⟩ = some (.slice A l.length c) := by rw [Bv_t35.cell]; rfl
      have qBw0 : w7.cell? ⟨w.heap.size + 1, 0, none⟩ = some (.int .i64 a) := by rw [Bw_t35.cell]; rfl
      have qBw1 : w7.cell? ⟨w.heap.size + 1, 1, none⟩ = some (.slice B ws.length d) := by rw [Bw_t35.cell]; rfl
      have qBx0 : w7.cell? ⟨w.heap.size + 2, 0, none⟩ = some (.string x.k) := by rw [Bx_t35.cell]; rfl
      have qBx1 : w7.cell? ⟨w.heap.size + 2, 1, none⟩ = some (.int .i64 x.n) := by rw [Bx_t35.cell]; rfl
      have qBx2 : w7.cell? ⟨w.heap.size + 2, 2, none⟩ = some (.bool x.g) := by rw [Bx_t35.cell]; rfl
      have qRt0 : w7.cell? ⟨w.heap.size + 3, 0, none⟩ = some (.int .i64 0) := by rw [Rt_t35.cell]; rfl
      have qRt1 : w7.cell? ⟨w.heap.size + 3, 1, none⟩ = some (.slice none 0 0) := by rw [Rt_t35.cell]; rfl
      have qBy0 : w7.cell? ⟨w21.heap.size, 0, none⟩ = some (.int .i64 a) := by rw [By_t35.cell]; rfl
      have qBy1 : w7.cell? ⟨w21.heap.size, 1, none⟩ = some (.slice adp PX.length cp) := by rw [By_t35.cell]; rfl
      go_wp2_with fail
      clear qBv0 qBv1 qBw0 qBw1 qBx0 qBx1 qBx2 qRt0 qRt1 qBy0 qBy1
      refine (copyWork_c a B d ws _ (by omega) x_t35).mono ?_
      rintro e w8 ⟨Vy, rfl, y_n, hb8⟩
      have HNy : Hid (∀ k, Vy.ownBlock = some k → k ≠ w.heap.size + 3) := Lib.hid (fun k hk => by have := (y_n.block_lt hk).1; omega)
      obtain ⟨ady, cy, rfl, ry1_y, ry2_y, ry3_y⟩ := y_n.read
      clear ry1_y ry2_y ry3_y
      have v_t38 := v_t35.next hb8
      clear v_t35
      have x_t38 := x_t35.next hb8
      clear x_t35
      have Bv_t38 := Bv_t35.next hb8
      clear Bv_t35
      have Bw_t38 := Bw_t35.next hb8
      clear Bw_t35
      have Bx_t38 := Bx_t35.next hb8
      clear Bx_t35
      have Rt_t38 := Rt_t35.next hb8
      clear Rt_t35
      have By_t38 := By_t35.next hb8
      clear By_t35
      have hw_t38 := below_next hw_t35 hb8
      have hs_t38 := hb8.size
      have qBv0 : w8.cell? ⟨w.heap.size, 0, none⟩ = some (.int .i64 z) := by rw [Bv_t38.cell]; rfl
      have qBv1 : w8.cell? ⟨w.heap.size, 1, none⟩ = some (.slice A l.length c) := by rw [Bv_t38.cell]; rfl
      have qBw0 : w8.cell? ⟨w.heap.size + 1, 0, none⟩ = some (.int .i64 a) := by rw [Bw_t38.cell]; rfl
      have qBw1 : w8.cell? ⟨w.heap.size + 1, 1, none⟩ = some (.slice B ws.length d) := by rw [Bw_t38.cell]; rfl
      have qBx0 : w8.cell? ⟨w.heap.size + 2, 0, none⟩ = some (.string x.k) := by rw [Bx_t38.cell]; rfl
      have qBx1 : w8.cell? ⟨w.heap.size + 2, 1, none⟩ = some (.int .i64 x.n) := by rw [Bx_t38.cell]; rfl
      have qBx2 : w8.cell? ⟨w.heap.size + 2, 2, none⟩ = some (.bool x.g) := by rw [Bx_t38.cell]; rfl
      have qRt0 : w8.cell? ⟨w.heap.size + 3, 0, none⟩ = some (.int .i64 0) := by rw [Rt_t38.cell]; rfl
      have qRt1 : w8.cell? ⟨w.heap.size + 3, 1, none⟩ = some (.slice none 0 0) := by rw [Rt_t38.cell]; rfl
      have qBy0 : w8.cell? ⟨w21.heap.size, 0, none⟩ = some (.int .i64 a) := by rw [By_t38.cell]; rfl
      have qBy1 : w8.cell? ⟨w21.heap.size, 1, none⟩ = some (.slice adp PX.length cp) := by rw [By_t38.cell]; rfl
      have d0 := qRt0
      have d1 := qRt1
      have fz0 := Rt_t38.free 0
      have fz1 := Rt_t38.free 1
      go_wp2
      refine bodyPost_ret (v := .tuple #[.agg #[.int .i64 a, .slice ady ws.length cy], .int .i64 3]) (by simp [results, Tryz.results32, go_sem, d0, d1]) rfl ?_
      refine ⟨.slice ady ws.length cy, (by first | (rw [HE.out.1, HE.out.2.1]; done) | (rw [HE.out.1, HE.out.2.1]; rfl)), ?_, ?_⟩
      ·
       have hne : ∀ k, (.slice ady ws.length cy : Value).ownBlock = some k → k ≠ w.heap.size + 3 := HNy.out
       rw [HE.out.2.2]
       exact ((y_n.setCell (a := ⟨w.heap.size + 3, 0, none⟩) hne _).setCell (a := ⟨w.heap.size + 3, 1, none⟩) hne _).low (by omega)
      ·
       exact (hw_t38.setCell (show w.heap.size ≤ w.heap.size + 3 from by omega) _).setCell (show w.heap.size ≤ w.heap.size + 3 from by omega) _
     ·
      subst hwb
      have HE : Hid (wputC z l a ws x = 0 ∧ wputA z l a ws = a ∧ wputW z l a ws x = PX) := Lib.hid ⟨HC.out, HA.out, by unfold wputW; rw [hk, HC.out, HPX.out]; rfl⟩
      have qBv0 : w7.cell? ⟨w.heap.size, 0, none⟩ = some (.int .i64 z) := by rw [Bv_t35.cell]; rfl
      have qBv1 : w7.cell? ⟨w.heap.size, 1, none⟩ = some (.slice A l.length c) := by rw [Bv_t35.cell]; rfl
      have qBw0 : w7.cell? ⟨w.heap.size + 1, 0, none⟩ = some (.int .i64 a) := by rw [Bw_t35.cell]; rfl
      have qBw1 : w7.cell? ⟨w.heap.size + 1, 1, none⟩ = some (.slice B ws.length d) := by rw [Bw_t35.cell]; rfl
      have qBx0 : w7.cell? ⟨w.heap.size + 2, 0, none⟩ = some (.string x.k) := by rw [Bx_t35.cell]; rfl
      have qBx1 : w7.cell? ⟨w.heap.size + 2, 1, none⟩ = some (.int .i64 x.n) := by rw [Bx_t35.cell]; rfl
      have qBx2 : w7.cell? ⟨w.heap.size + 2, 2, none⟩ = some (.bool x.g) := by rw [Bx_t35.cell]; rfl
      have qRt0 : w7.cell? ⟨w.heap.size + 3, 0, none⟩ = some (.int .i64 0) := by rw [Rt_t35.cell]; rfl
      have qRt1 : w7.cell? ⟨w.heap.size + 3, 1, none⟩ = some (.slice none 0 0) := by rw [Rt_t35.cell]; rfl
      have qBy0 : w7.cell? ⟨w21.heap.size, 0, none⟩ = some (.int .i64 a) := by rw [By_t35.cell]; rfl
      have qBy1 : w7.cell? ⟨w21.heap.size, 1, none⟩ = some (.slice adp PX.length cp) := by rw [By_t35.cell]; rfl
      have d0 := qRt0
      have d1 := qRt1
      have fz0 := Rt_t35.free 0
      have fz1 := Rt_t35.free 1
      go_wp2
      refine bodyPost_ret (v := .tuple #[.agg #[.int .i64 a, .slice adp PX.length cp], .int .i64 0]) (by simp [results, Tryz.results32, go_sem, d0, d1]) rfl ?_
      refine ⟨.slice adp PX.length cp, (by first | (rw [HE.out.1, HE.out.2.1]; done) | (rw [HE.out.1, HE.out.2.1]; rfl)), ?_, ?_⟩
      ·
       have hne : ∀ k, (.slice adp PX.length cp : Value).ownBlock = some k → k ≠ w.heap.size + 3 := HNp.out
       rw [HE.out.2.2]
       exact ((p_t35.setCell (a := ⟨w.heap.size + 3, 0, none⟩) hne _).setCell (a := ⟨w.heap.size + 3, 1, none⟩) hne _).low (by omega)
      ·
       exact (hw_t35.setCell (show w.heap.size ≤ w.heap.size + 3 from by omega) _).setCell (show w.heap.size ≤ w.heap.size + 3 from by omega) _
    ·
     go_simp
     have lt_Bv := Bv_t27.lt
     have lt_Bw := Bw_t27.lt
     have lt_Bx := Bx_t27.lt
     have lt_Rt := Rt_t27.lt
     have hb_t29 := below_alloc (Below.refl _ wd) (.cells #[.int .i64 0, .slice none 0 0] 38)
     have By_t29 := blkA wd #[.int .i64 0, .slice none 0 0] 38
     have hz_t29 : (wd.alloc (.cells #[.int .i64 0, .slice none 0 0] 38)).heap.size = wd.heap.size + 1 := World.size_alloc _ _
     have v_t30 := v_t27.next hb_t29
     clear v_t27
     have x_t30 := x_t27.next hb_t29
     clear x_t27
     have M_t30 := M_t27.next hb_t29
     clear M_t27
     have Bv_t30 := Bv_t27.next hb_t29
     clear Bv_t27
     have Bw_t30 := Bw_t27.next hb_t29
     clear Bw_t27
     have Bx_t30 := Bx_t27.next hb_t29
     clear Bx_t27
     have Rt_t30 := Rt_t27.next hb_t29
     clear Rt_t27
     have hw_t30 := below_next hw_t27 hb_t29
     have hs_t30 := hb_t29.size
     refine hK.out _ _ ?_ (fun hHeld => ?_)
     focus ((try dsimp only); (exact ⟨by rw [Bv_t30.cell]; rfl, by rw [Bv_t30.cell]; rfl, by rw [Bw_t30.cell]; rfl, by rw [Bw_t30.cell]; rfl, by rw [Bx_t30.cell]; rfl, by rw [Bx_t30.cell]; rfl, by rw [Bx_t30.cell]; rfl, by rw [Rt_t30.cell]; rfl, by rw [Rt_t30.cell]; rfl⟩))
     clear hK K
     try simp only [Act.put, pa, pb, pc]
     obtain ⟨yb, HYb⟩ : ∃ yb, Hid (wd.heap.size = yb) := ⟨_, Lib.hid rfl⟩
     have ne_Bv : w.heap.size < yb := by have h1 := lt_Bv; have h3 := HYb.out; omega
     have ne_Bw : w.heap.size + 1 < yb := by have h1 := lt_Bw; have h3 := HYb.out; omega
     have ne_Bx : w.heap.size + 2 < yb := by have h1 := lt_Bx; have h3 := HYb.out; omega
     have ne_Rt : w.heap.size + 3 < yb := by have h1 := lt_Rt; have h3 := HYb.out; omega
     rw [HYb.out] at By_t29
     try rw [HYb.out]
     obtain ⟨we, HWE⟩ : ∃ we, Hid ((wd.alloc (.cells #[.int .i64 0, .slice none 0 0] 38)) = we) := ⟨_, Lib.hid rfl⟩
     rw [HWE.out] at hHeld v_t30 x_t30 M_t30 Bv_t30 Bw_t30 Bx_t30 Rt_t30 By_t29 hw_t30
     rw [HWE.out]
     refine rd1 3 (fun K hK => ?_)
     go_simp
     go_at_call 79
     have hgl_t32 := Rt_t30.lt
     refine (list_c bb _ PX _ HAP.out hfp (by omega) M_t30).mono ?_
     rintro e w22 ⟨Vp, rfl, p_n, hb22⟩
     have HNp : Hid (∀ k, Vp.ownBlock = some k → k ≠ w.heap.size + 3) := Lib.hid (fun k hk => by have := (p_n.block_lt hk).1; omega)
     have hyl := By_t29.lt
     have HNq : Hid (∀ k, Vp.ownBlock = some k → k ≠ yb) := Lib.hid (fun k hk => by have := (p_n.block_lt hk).1; omega)
     obtain ⟨adp, cp, rfl, ry1_p, ry2_p, ry3_p⟩ := p_n.read
     clear ry1_p ry2_p ry3_p
     clear M_t30
     have v_t33 := v_t30.next hb22
     clear v_t30
     have x_t33 := x_t30.next hb22
     clear x_t30
     have Bv_t33 := Bv_t30.next hb22
     clear Bv_t30
     have Bw_t33 := Bw_t30.next hb22
     clear Bw_t30
     have Bx_t33 := Bx_t30.next hb22
     clear Bx_t30
     have Rt_t33 := Rt_t30.next hb22
     clear Rt_t30
     have By_t33 := By_t29.next hb22
     clear By_t29
     have hw_t33 := below_next hw_t30 hb22
     have hs_t33 := hb22.size
     go_wp2_with fail
     refine hK.out _ _ ?_ (fun hHeld => ?_)
     focus ((try dsimp only); (exact ⟨by rw [Bv_t33.cell]; rfl, by rw [Bv_t33.cell]; rfl, by rw [Bw_t33.cell]; rfl, by rw [Bw_t33.cell]; rfl, by rw [Bx_t33.cell]; rfl, by rw [Bx_t33.cell]; rfl, by rw [Bx_t33.cell]; rfl, by rw [Rt_t33.cell]; rfl, by rw [Rt_t33.cell]; rfl⟩))
     clear hK K
     try simp only [Act.put, pa, pb, pc]
     refine tk 4 ?_
     have d0 : w22.cell? ⟨yb, 0, none⟩ = some (.int .i64 0) := (by rw [By_t33.cell]; rfl)
     have d1 : w22.cell? ⟨yb, 1, none⟩ = some (.slice none 0 0) := (by rw [By_t33.cell]; rfl)
     have f0 := By_t33.free 0
     have f1 := By_t33.free 1
     have Bv_s := (Bv_t33.setOther (a := ⟨yb, 0, none⟩) (show w.heap.size ≠ yb from by omega) (.int .i64 a)).setOther (a := ⟨yb, 1, none⟩) (show w.heap.size ≠ yb from by omega) (.slice adp PX.length cp)
     have Bw_s := (Bw_t33.setOther (a := ⟨yb, 0, none⟩) (show w.heap.size + 1 ≠ yb from by omega) (.int .i64 a)).setOther (a := ⟨yb, 1, none⟩) (show w.heap.size + 1 ≠ yb from by omega) (.slice adp PX.length cp)
     have Bx_s := (Bx_t33.setOther (a := ⟨yb, 0, none⟩) (show w.heap.size + 2 ≠ yb from by omega) (.int .i64 a)).setOther (a := ⟨yb, 1, none⟩) (show w.heap.size + 2 ≠ yb from by omega) (.slice adp PX.length cp)
     have Rt_s := (Rt_t33.setOther (a := ⟨yb, 0, none⟩) (show w.heap.size + 3 ≠ yb from by omega) (.int .i64 a)).setOther (a := ⟨yb, 1, none⟩) (show w.heap.size + 3 ≠ yb from by omega) (.slice adp PX.length cp)
     have By_s := (By_t33.set_ 0 (.int .i64 a)).set_ 1 (.slice adp PX.length cp)
     have hw_s : Below w.heap.size w ((w22.setCell ⟨yb, 0, none⟩ (.int .i64 a)).setCell ⟨yb, 1, none⟩ (.slice adp PX.length cp)) := (hw_t33.setCell (show w.heap.size ≤ yb from by omega) _).setCell (show w.heap.size ≤ yb from by omega) _
     have p_s := (p_n.setCell (a := ⟨yb, 0, none⟩) HNq.out (.int .i64 a)).setCell (a := ⟨yb, 1, none⟩) HNq.out (.slice adp PX.length cp)
     have v_s := (hrO.out.below hw_s).more hw_s.size
     have x_s := (hrxO.out.below hw_s).more hw_s.size
     refine rd1 6 (fun K hK => ?_)
     go_simp
     refine hK.out _ _ ?_ (fun hHeld => ?_)
     focus ((try dsimp only); (exact ⟨by rw [Bv_s.cell]; rfl, by rw [Bv_s.cell]; rfl, by rw [Bw_s.cell]; rfl, by rw [Bw_s.cell]; rfl, by rw [Bx_s.cell]; rfl, by rw [Bx_s.cell]; rfl, by rw [Bx_s.cell]; rfl, by rw [Rt_s.cell]; rfl, by rw [Rt_s.cell]; rfl⟩))
     clear hK K d0 d1 f0 f1
     try simp only [Act.put, pa, pb, pc]
     refine wpAnyH_done (by kernel_rfl) ?_ _
     clear hHeld v_t33 x_t33 p_n Bv_t33 Bw_t33 Bx_t33 Rt_t33 By_t33 hw_t33
     obtain ⟨wg, HWG⟩ : ∃ wg, Hid (((w22.setCell ⟨yb, 0, none⟩ (.int .i64 a)).setCell ⟨yb, 1, none⟩ (.slice adp PX.length cp)) = wg) := ⟨_, Lib.hid rfl⟩
     rw [HWG.out] at v_s x_s p_s Bv_s Bw_s Bx_s Rt_s By_s hw_s
     try rw [HWG.out]
     have By_g : Blk wg yb 38 #[.int .i64 a, .slice adp PX.length cp] := By_s
     clear By_s
     have hpd := (p_s.rd'.2.1)
     have hpm := (p_s.rd'.2.2.1)
     have qBv0 : wg.cell? ⟨w.heap.size, 0, none⟩ = some (.int .i64 z) := by rw [Bv_s.cell]; rfl
     have qBv1 : wg.cell? ⟨w.heap.size, 1, none⟩ = some (.slice A l.length c) := by rw [Bv_s.cell]; rfl
     have qBw0 : wg.cell? ⟨w.heap.size + 1, 0, none⟩ = some (.int .i64 a) := by rw [Bw_s.cell]; rfl
     have qBw1 : wg.cell? ⟨w.heap.size + 1, 1, none⟩ = some (.slice B ws.length d) := by rw [Bw_s.cell]; rfl
     have qBx0 : wg.cell? ⟨w.heap.size + 2, 0, none⟩ = some (.string x.k) := by rw [Bx_s.cell]; rfl
     have qBx1 : wg.cell? ⟨w.heap.size + 2, 1, none⟩ = some (.int .i64 x.n) := by rw [Bx_s.cell]; rfl
     have qBx2 : wg.cell? ⟨w.heap.size + 2, 2, none⟩ = some (.bool x.g) := by rw [Bx_s.cell]; rfl
     have qRt0 : wg.cell? ⟨w.heap.size + 3, 0, none⟩ = some (.int .i64 0) := by rw [Rt_s.cell]; rfl
     have qRt1 : wg.cell? ⟨w.heap.size + 3, 1, none⟩ = some (.slice none 0 0) := by rw [Rt_s.cell]; rfl
     have qBy0 : wg.cell? ⟨yb, 0, none⟩ = some (.int .i64 a) := by rw [By_g.cell]; rfl
     have qBy1 : wg.cell? ⟨yb, 1, none⟩ = some (.slice adp PX.length cp) := by rw [By_g.cell]; rfl
     go_wp2_with fail
     clear qBv0 qBv1 qBw0 qBw1 qBx0 qBx1 qBx2 qRt0 qRt1 qBy0 qBy1
     refine (implWorkOk z A c l a adp cp PX _ hf hc hm hl hfp hpd hpm (by omega) v_s (p_s.rd'.2.2.2)).mono ?_
     rintro e w7 ⟨rfl, hb7⟩
     rw [HWB.out]
     have v_t35 := v_s.next hb7
     clear v_s
     have x_t35 := x_s.next hb7
     clear x_s
     have p_t35 := p_s.next hb7
     clear p_s
     have Bv_t35 := Bv_s.next hb7
     clear Bv_s
     have Bw_t35 := Bw_s.next hb7
     clear Bw_s
     have Bx_t35 := Bx_s.next hb7
     clear Bx_s
     have Rt_t35 := Rt_s.next hb7
     clear Rt_s
     have By_t35 := By_g.next hb7
     clear By_g
     have hw_t35 := below_next hw_s hb7
     have hs_t35 := hb7.size
     cases hwb : WB
     ·
      subst hwb
      have HE : Hid (wputC z l a ws x = 3 ∧ wputA z l a ws = a ∧ wputW z l a ws x = ws) := Lib.hid ⟨HC.out, HA.out, by unfold wputW; rw [hk, HC.out]; rfl⟩
      clear p_t35
      have hgl_t37 := Rt_t35.lt
      have qBv0 : w7.cell? ⟨w.heap.size, 0, none⟩ = some (.int .i64 z) := by rw [Bv_t35.cell]; rfl
      have qBv1 : w7.cell? ⟨w.heap.size, 1, none⟩ = some (.slice A l.length c) := by rw [Bv_t35.cell]; rfl
      have qBw0 : w7.cell? ⟨w.heap.size + 1, 0, none⟩ = some (.int .i64 a) := by rw [Bw_t35.cell]; rfl
      have qBw1 : w7.cell? ⟨w.heap.size + 1, 1, none⟩ = some (.slice B ws.length d) := by rw [Bw_t35.cell]; rfl
      have qBx0 : w7.cell? ⟨w.heap.size + 2, 0, none⟩ = some (.string x.k) := by rw [Bx_t35.cell]; rfl
      have qBx1 : w7.cell? ⟨w.heap.size + 2, 1, none⟩ = some (.int .i64 x.n) := by rw [Bx_t35.cell]; rfl
      have qBx2 : w7.cell? ⟨w.heap.size + 2, 2, none⟩ = some (.bool x.g) := by rw [Bx_t35.cell]; rfl
      have qRt0 : w7.cell? ⟨w.heap.size + 3, 0, none⟩ = some (.int .i64 0) := by rw [Rt_t35.cell]; rfl
      have qRt1 : w7.cell? ⟨w.heap.size + 3, 1, none⟩ = some (.slice none 0 0) := by rw [Rt_t35.cell]; rfl
      have qBy0 : w7.cell? ⟨yb, 0, none⟩ = some (.int .i64 a) := by rw [By_t35.cell]; rfl
      have qBy1 : w7.cell? ⟨yb, 1, none⟩ = some (.slice adp PX.length cp) := by rw [By_t35.cell]; rfl
      go_wp2_with fail
      clear qBv0 qBv1 qBw0 qBw1 qBx0 qBx1 qBx2 qRt0 qRt1 qBy0 qBy1
      refine (copyWork_c a B d ws _ (by omega) x_t35).mono ?_
      rintro e w8 ⟨Vy, rfl, y_n, hb8⟩
      have HNy : Hid (∀ k, Vy.ownBlock = some k → k ≠ w.heap.size + 3) := Lib.hid (fun k hk => by have := (y_n.block_lt hk).1; omega)
      obtain ⟨ady, cy, rfl, ry1_y, ry2_y, ry3_y⟩ := y_n.read
      clear ry1_y ry2_y ry3_y
      have v_t38 := v_t35.next hb8
      clear v_t35
      have x_t38 := x_t35.next hb8
      clear x_t35
      have Bv_t38 := Bv_t35.next hb8
      clear Bv_t35
      have Bw_t38 := Bw_t35.next hb8
      clear Bw_t35
      have Bx_t38 := Bx_t35.next hb8
      clear Bx_t35
      have Rt_t38 := Rt_t35.next hb8
      clear Rt_t35
      have By_t38 := By_t35.next hb8
      clear By_t35
      have hw_t38 := below_next hw_t35 hb8
      have hs_t38 := hb8.size
      have qBv0 : w8.cell? ⟨w.heap.size, 0, none⟩ = some (.int .i64 z) := by rw [Bv_t38.cell]; rfl
      have qBv1 : w8.cell? ⟨w.heap.size, 1, none⟩ = some (.slice A l.length c) := by rw [Bv_t38.cell]; rfl
      have qBw0 : w8.cell? ⟨w.heap.size + 1, 0, none⟩ = some (.int .i64 a) := by rw [Bw_t38.cell]; rfl
      have qBw1 : w8.cell? ⟨w.heap.size + 1, 1, none⟩ = some (.slice B ws.length d) := by rw [Bw_t38.cell]; rfl
      have qBx0 : w8.cell? ⟨w.heap.size + 2, 0, none⟩ = some (.string x.k) := by rw [Bx_t38.cell]; rfl
      have qBx1 : w8.cell? ⟨w.heap.size + 2, 1, none⟩ = some (.int .i64 x.n) := by rw [Bx_t38.cell]; rfl
      have qBx2 : w8.cell? ⟨w.heap.size + 2, 2, none⟩ = some (.bool x.g) := by rw [Bx_t38.cell]; rfl
      have qRt0 : w8.cell? ⟨w.heap.size + 3, 0, none⟩ = some (.int .i64 0) := by rw [Rt_t38.cell]; rfl
      have qRt1 : w8.cell? ⟨w.heap.size + 3, 1, none⟩ = some (.slice none 0 0) := by rw [Rt_t38.cell]; rfl
      have qBy0 : w8.cell? ⟨yb, 0, none⟩ = some (.int .i64 a) := by rw [By_t38.cell]; rfl
      have qBy1 : w8.cell? ⟨yb, 1, none⟩ = some (.slice adp PX.length cp) := by rw [By_t38.cell]; rfl
      have d0 := qRt0
      have d1 := qRt1
      have fz0 := Rt_t38.free 0
      have fz1 := Rt_t38.free 1
      go_wp2
      refine bodyPost_ret (v := .tuple #[.agg #[.int .i64 a, .slice ady ws.length cy], .int .i64 3]) (by simp [results, Tryz.results32, go_sem, d0, d1]) rfl ?_
      refine ⟨.slice ady ws.length cy, (by first | (rw [HE.out.1, HE.out.2.1]; done) | (rw [HE.out.1, HE.out.2.1]; rfl)), ?_, ?_⟩
      ·
       have hne : ∀ k, (.slice ady ws.length cy : Value).ownBlock = some k → k ≠ w.heap.size + 3 := HNy.out
       rw [HE.out.2.2]
       exact ((y_n.setCell (a := ⟨w.heap.size + 3, 0, none⟩) hne _).setCell (a := ⟨w.heap.size + 3, 1, none⟩) hne _).low (by omega)
      ·
       exact (hw_t38.setCell (show w.heap.size ≤ w.heap.size + 3 from by omega) _).setCell (show w.heap.size ≤ w.heap.size + 3 from by omega) _
     ·
      subst hwb
      have HE : Hid (wputC z l a ws x = 0 ∧ wputA z l a ws = a ∧ wputW z l a ws x = PX) := Lib.hid ⟨HC.out, HA.out, by unfold wputW; rw [hk, HC.out, HPX.out]; rfl⟩
      have qBv0 : w7.cell? ⟨w.heap.size, 0, none⟩ = some (.int .i64 z) := by rw [Bv_t35.cell]; rfl
      have qBv1 : w7.cell? ⟨w.heap.size, 1, none⟩ = some (.slice A l.length c) := by rw [Bv_t35.cell]; rfl
      have qBw0 : w7.cell? ⟨w.heap.size + 1, 0, none⟩ = some (.int .i64 a) := by rw [Bw_t35.cell]; rfl
      have qBw1 : w7.cell? ⟨w.heap.size + 1, 1, none⟩ = some (.slice B ws.length d) := by rw [Bw_t35.cell]; rfl
      have qBx0 : w7.cell? ⟨w.heap.size + 2, 0, none⟩ = some (.string x.k) := by rw [Bx_t35.cell]; rfl
      have qBx1 : w7.cell? ⟨w.heap.size + 2, 1, none⟩ = some (.int .i64 x.n) := by rw [Bx_t35.cell]; rfl
      have qBx2 : w7.cell? ⟨w.heap.size + 2, 2, none⟩ = some (.bool x.g) := by rw [Bx_t35.cell]; rfl
      have qRt0 : w7.cell? ⟨w.heap.size + 3, 0, none⟩ = some (.int .i64 0) := by rw [Rt_t35.cell]; rfl
      have qRt1 : w7.cell? ⟨w.heap.size + 3, 1, none⟩ = some (.slice none 0 0) := by rw [Rt_t35.cell]; rfl
      have qBy0 : w7.cell? ⟨yb, 0, none⟩ = some (.int .i64 a) := by rw [By_t35.cell]; rfl
      have qBy1 : w7.cell? ⟨yb, 1, none⟩ = some (.slice adp PX.length cp) := by rw [By_t35.cell]; rfl
      have d0 := qRt0
      have d1 := qRt1
      have fz0 := Rt_t35.free 0
      have fz1 := Rt_t35.free 1
      go_wp2
      refine bodyPost_ret (v := .tuple #[.agg #[.int .i64 a, .slice adp PX.length cp], .int .i64 0]) (by simp [results, Tryz.results32, go_sem, d0, d1]) rfl ?_
      refine ⟨.slice adp PX.length cp, (by first | (rw [HE.out.1, HE.out.2.1]; done) | (rw [HE.out.1, HE.out.2.1]; rfl)), ?_, ?_⟩
      ·
       have hne : ∀ k, (.slice adp PX.length cp : Value).ownBlock = some k → k ≠ w.heap.size + 3 := HNp.out
       rw [HE.out.2.2]
       exact ((p_t35.setCell (a := ⟨w.heap.size + 3, 0, none⟩) hne _).setCell (a := ⟨w.heap.size + 3, 1, none⟩) hne _).low (by omega)
      ·
       exact (hw_t35.setCell (show w.heap.size ≤ w.heap.size + 3 from by omega) _).setCell (show w.heap.size ≤ w.heap.size + 3 from by omega) _
theorem implWorkPutO {v u : Value} {z a : Int} {l : List V} {ws : List X} {x : X} {base base' : Nat} {w : World} (h : OwnG w base v l) (h' : OwnG w base' u ws) (hf : FitVs l) (hfx : FitXs ws) (hx : FitX x) (hl : l.length ≤ 1048576) (hlx : ws.length ≤ 1048576) :
  Calls Tryz.prog 32 #[.agg #[.int .i64 z, v], .agg #[.int .i64 a, u], .agg #[.string x.k, .int .i64 x.n, .bool x.g]] w (RetXC w (wputA z l a ws) (wputW z l a ws x) (wputC z l a ws x)) := by
 obtain ⟨A, c, rfl, h1, h2, hr⟩ := h.read
 obtain ⟨B, d, rfl, h3, h4, hr'⟩ := h'.read
 exact implWorkPut z A c l a B d ws x w hf h1 h2 hl hfx h3 h4 hlx hx hr hr'

end Go.Proofs.YtbeklnhngjmpiaaGreat
