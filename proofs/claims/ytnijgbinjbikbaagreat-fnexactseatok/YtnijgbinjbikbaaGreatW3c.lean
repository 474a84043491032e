/- The model's chapter 3: WorkRows, WorkNew, WorkEnd. -/
import Derived.Test.YtnijgbinjbikbaaGreatW3a
namespace Go.Proofs.YtnijgbinjbikbaaGreat
open Go.RowKit
set_option linter.unusedVariables false
set_option maxRecDepth 100000

theorem late_succ {l : List V} {a : Int} {ws : List X} {k : Nat} (hk : k < ws.length) : lateB l a (ws.take (k + 1)) = (lateB l a (ws.take k) || decide (a < lastL l ws[k].k)) := by
 unfold lateB; rw [List.take_succ_eq_append_getElem hk, List.any_append]; simp
theorem late_in {l : List V} {a : Int} {ws : List X} {k : Nat} (hk : k < ws.length) (h : a < lastL l ws[k].k) : lateB l a ws = true := by
 unfold lateB; rw [List.any_eq_true]; exact ⟨ws[k], List.getElem_mem hk, decide_eq_true h⟩

set_option maxHeartbeats 2000000 in
theorem specWorkRows (z : Int) (A : Option Addr) (c : Nat) (l : List V) (a : Int) (B : Option Addr) (d : Nat) (ws : List X) (w : World) (hf : FitVs l) (hc : l.length ≤ c) (hm : c ≤ maxLen) (hl : l.length ≤ 1048576) (hfx : FitXs ws) (hd : ws.length ≤ d) (hmd : d ≤ maxLen) (hlx : ws.length ≤ 1048576) (hr : RdG w w.heap.size A l) (hrx : RdG w w.heap.size B ws) :
  Calls Tryz.prog 81 #[.agg #[.int .i64 z, .slice A l.length c], .agg #[.int .i64 a, .slice B ws.length d]] w (RetR w (workRows z l a ws)) := by
 go_enter Tryz.func81, Tryz.ntmps81
 have hb_t1 := below_alloc (Below.refl _ w) (.cells #[.int .i64 z, .slice A l.length c] 32)
 have Bv_t1 := blkA w #[.int .i64 z, .slice A l.length c] 32
 have hz_t1 : (w.alloc (.cells #[.int .i64 z, .slice A l.length c] 32)).heap.size = w.heap.size + 1 := World.size_alloc _ _
 have hw_t2 := hb_t1
 have hs_t2 := hb_t1.size
 have hb_t4 := below_alloc (Below.refl _ (w.alloc (.cells #[.int .i64 z, .slice A l.length c] 32))) (.cells #[.int .i64 a, .slice B ws.length d] 25)
 have Bw_t4 := blkA (w.alloc (.cells #[.int .i64 z, .slice A l.length c] 32)) #[.int .i64 a, .slice B ws.length d] 25
 simp only [World.size_alloc] at Bw_t4
 have hz_t4 : ((w.alloc (.cells #[.int .i64 z, .slice A l.length c] 32)).alloc (.cells #[.int .i64 a, .slice B ws.length d] 25)).heap.size = (w.alloc (.cells #[.int .i64 z, .slice A l.length c] 32)).heap.size + 1 := World.size_alloc _ _
 have Bv_t5 := Bv_t1.next hb_t4
 clear Bv_t1
 have hw_t5 := below_next hw_t2 hb_t4
 have hs_t5 := hb_t4.size
 have v_0 := hr.next hw_t5
 have x_0 := hrx.next hw_t5
 cases hk : workB z l a ws
 ·
  have HE : Hid (workRows z l a ws = []) := Lib.hid (by unfold workRows; rw [hk]; rfl)
  rw [HE.out]
  have qBv0 : ((w.alloc (.cells #[.int .i64 z, .slice A l.length c] 32)).alloc (.cells #[.int .i64 a, .slice B ws.length d] 25)).cell? ⟨w.heap.size, 0, none⟩ = some (.int .i64 z) := by rw [Bv_t5.cell]; rfl
  have qBv1 : ((w.alloc (.cells #[.int .i64 z, .slice A l.length c] 32)).alloc (.cells #[.int .i64 a, .slice B ws.length d] 25)).cell? ⟨w.heap.size, 1, none⟩ = some (.slice A l.length c) := by rw [Bv_t5.cell]; rfl
  have qBw0 : ((w.alloc (.cells #[.int .i64 z, .slice A l.length c] 32)).alloc (.cells #[.int .i64 a, .slice B ws.length d] 25)).cell? ⟨w.heap.size + 1, 0, none⟩ = some (.int .i64 a) := by rw [Bw_t4.cell]; rfl
  have qBw1 : ((w.alloc (.cells #[.int .i64 z, .slice A l.length c] 32)).alloc (.cells #[.int .i64 a, .slice B ws.length d] 25)).cell? ⟨w.heap.size + 1, 1, none⟩ = some (.slice B ws.length d) := by rw [Bw_t4.cell]; rfl
  go_wp2_with fail
  clear qBv0 qBv1 qBw0 qBw1
  refine (specWorkOk z A c l a B d ws _ hf hc hm hl hfx hd hmd hlx v_0 x_0).mono ?_
  rintro e w1 ⟨rfl, hb1⟩
  rw [hk]
  have v_t7 := v_0.next hb1
  clear v_0
  have x_t7 := x_0.next hb1
  clear x_0
  have Bv_t7 := Bv_t5.next hb1
  clear Bv_t5
  have Bw_t7 := Bw_t4.next hb1
  clear Bw_t4
  have hw_t7 := below_next hw_t5 hb1
  have hs_t7 := hb1.size
  have qBv0 : w1.cell? ⟨w.heap.size, 0, none⟩ = some (.int .i64 z) := by rw [Bv_t7.cell]; rfl
  have qBv1 : w1.cell? ⟨w.heap.size, 1, none⟩ = some (.slice A l.length c) := by rw [Bv_t7.cell]; rfl
  have qBw0 : w1.cell? ⟨w.heap.size + 1, 0, none⟩ = some (.int .i64 a) := by rw [Bw_t7.cell]; rfl
  have qBw1 : w1.cell? ⟨w.heap.size + 1, 1, none⟩ = some (.slice B ws.length d) := by rw [Bw_t7.cell]; rfl
  go_wp2
  go_ret
  exact ⟨_, rfl, (OwnR.fresh w1 _ (Nat.le_refl _)).low hw_t7.size, below_alloc hw_t7 _⟩
 ·
  have HE : Hid (workRows z l a ws = viewL (atL l a) ws) := Lib.hid (by unfold workRows; rw [hk]; rfl)
  rw [HE.out]
  have hP := workB_iff.1 hk
  have hll := hP.vers.len
  have hlw := hP.wr.len
  have hal := atL_length l a
  clear hP
  obtain ⟨al, HAL⟩ : ∃ al, Hid (atL l a = al) := ⟨_, Lib.hid rfl⟩
  rw [HAL.out] at hal ⊢
  have qBv0 : ((w.alloc (.cells #[.int .i64 z, .slice A l.length c] 32)).alloc (.cells #[.int .i64 a, .slice B ws.length d] 25)).cell? ⟨w.heap.size, 0, none⟩ = some (.int .i64 z) := by rw [Bv_t5.cell]; rfl
  have qBv1 : ((w.alloc (.cells #[.int .i64 z, .slice A l.length c] 32)).alloc (.cells #[.int .i64 a, .slice B ws.length d] 25)).cell? ⟨w.heap.size, 1, none⟩ = some (.slice A l.length c) := by rw [Bv_t5.cell]; rfl
  have qBw0 : ((w.alloc (.cells #[.int .i64 z, .slice A l.length c] 32)).alloc (.cells #[.int .i64 a, .slice B ws.length d] 25)).cell? ⟨w.heap.size + 1, 0, none⟩ = some (.int .i64 a) := by rw [Bw_t4.cell]; rfl
  have qBw1 : ((w.alloc (.cells #[.int .i64 z, .slice A l.length c] 32)).alloc (.cells #[.int .i64 a, .slice B ws.length d] 25)).cell? ⟨w.heap.size + 1, 1, none⟩ = some (.slice B ws.length d) := by rw [Bw_t4.cell]; rfl
  go_wp2_with fail
  clear qBv0 qBv1 qBw0 qBw1
  refine (specWorkOk z A c l a B d ws _ hf hc hm hl hfx hd hmd hlx v_0 x_0).mono ?_
  rintro e w1 ⟨rfl, hb1⟩
  rw [hk]
  have v_t7 := v_0.next hb1
  clear v_0
  have x_t7 := x_0.next hb1
  clear x_0
  have Bv_t7 := Bv_t5.next hb1
  clear Bv_t5
  have Bw_t7 := Bw_t4.next hb1
  clear Bw_t4
  have hw_t7 := below_next hw_t5 hb1
  have hs_t7 := hb1.size
  have hgw := hw_t7.size
  have qBv0 : w1.cell? ⟨w.heap.size, 0, none⟩ = some (.int .i64 z) := by rw [Bv_t7.cell]; rfl
  have qBv1 : w1.cell? ⟨w.heap.size, 1, none⟩ = some (.slice A l.length c) := by rw [Bv_t7.cell]; rfl
  have qBw0 : w1.cell? ⟨w.heap.size + 1, 0, none⟩ = some (.int .i64 a) := by rw [Bw_t7.cell]; rfl
  have qBw1 : w1.cell? ⟨w.heap.size + 1, 1, none⟩ = some (.slice B ws.length d) := by rw [Bw_t7.cell]; rfl
  go_wp2
  clear qBv0 qBv1 qBw0 qBw1
  have hb_t9 : Below w1.heap.size w1 w1.drew := (Below.refl _ _).drew
  have v_t10 := v_t7.next hb_t9
  clear v_t7
  have x_t10 := x_t7.next hb_t9
  clear x_t7
  have Bv_t10 := Bv_t7.next hb_t9
  clear Bv_t7
  have Bw_t10 := Bw_t7.next hb_t9
  clear Bw_t7
  have hw_t10 := below_next hw_t7 hb_t9
  have hs_t10 := hb_t9.size
  refine wp_region_held_drew (S := (fun W => W.cell? ⟨w.heap.size, 0, none⟩ = some (.int .i64 z) ∧ W.cell? ⟨w.heap.size, 1, none⟩ = some (.slice A l.length c) ∧ W.cell? ⟨w.heap.size + 1, 0, none⟩ = some (.int .i64 a) ∧ W.cell? ⟨w.heap.size + 1, 1, none⟩ = some (.slice B ws.length d))) (by kernel_rfl) ?_ (fun hHeld => ?_)
  focus ((try dsimp only); (exact ⟨by rw [Bv_t10.cell]; rfl, by rw [Bv_t10.cell]; rfl, by rw [Bw_t10.cell]; rfl, by rw [Bw_t10.cell]; rfl⟩))
  refine tk 0 ?_
  refine tk 1 ?_
  refine tk 2 ?_
  refine tk 4 ?_
  refine tk 5 ?_
  (refine rd1 3 (fun K hK => ?_); go_simp; (go_at_call 23; refine (specAt z A c l a _ hc (by omega) v_t10).mono ?_; rw [HAL.out]; rintro e w2 ⟨Vr, rfl, r_n, hb2⟩; obtain ⟨adr, cr, rfl, ry1_r, ry2_r, ry3_r⟩ := r_n.read; clear ry1_r ry2_r ry3_r; have v_t12 := v_t10.next hb2; clear v_t10; have x_t12 := x_t10.next hb2; clear x_t10; have Bv_t12 := Bv_t10.next hb2; clear Bv_t10; have Bw_t12 := Bw_t10.next hb2; clear Bw_t10; have hw_t12 := below_next hw_t10 hb2; have hs_t12 := hb2.size); go_wp2_with fail; refine hK.out _ _ ?_ (fun hHeld => ?_); (focus ((try dsimp only); (exact ⟨by rw [Bv_t12.cell]; rfl, by rw [Bv_t12.cell]; rfl, by rw [Bw_t12.cell]; rfl, by rw [Bw_t12.cell]; rfl⟩))); clear hK K; (try simp only [Act.put, pa, pb, pc]))
  (refine rd1 6 (fun K hK => ?_); go_simp; (go_at_call 58; refine (l3Rows_c _ _ al B d ws _ r_n (show _ ≤ _ from by have := hb2.size; omega) (by omega) (by omega) x_t12).mono ?_; rintro e w3 ⟨Vs, rfl, s_n, hb3⟩; obtain ⟨ads, cs, rfl, ry1_s, ry2_s, ry3_s⟩ := s_n.read; clear ry1_s ry2_s ry3_s; have v_t14 := v_t12.next hb3; clear v_t12; have x_t14 := x_t12.next hb3; clear x_t12; have r_t14 := r_n.next hb3; clear r_n; have Bv_t14 := Bv_t12.next hb3; clear Bv_t12; have Bw_t14 := Bw_t12.next hb3; clear Bw_t12; have hw_t14 := below_next hw_t12 hb3; have hs_t14 := hb3.size); go_wp2_with fail; refine hK.out _ _ ?_ (fun hHeld => ?_); (focus ((try dsimp only); (exact ⟨by rw [Bv_t14.cell]; rfl, by rw [Bv_t14.cell]; rfl, by rw [Bw_t14.cell]; rfl, by rw [Bw_t14.cell]; rfl⟩))); clear hK K; (try simp only [Act.put, pa, pb, pc]))
  refine tk 7 ?_
  refine wpAnyH_done (by kernel_rfl) ?_ _
  have qBv0 : w3.cell? ⟨w.heap.size, 0, none⟩ = some (.int .i64 z) := by rw [Bv_t14.cell]; rfl
  have qBv1 : w3.cell? ⟨w.heap.size, 1, none⟩ = some (.slice A l.length c) := by rw [Bv_t14.cell]; rfl
  have qBw0 : w3.cell? ⟨w.heap.size + 1, 0, none⟩ = some (.int .i64 a) := by rw [Bw_t14.cell]; rfl
  have qBw1 : w3.cell? ⟨w.heap.size + 1, 1, none⟩ = some (.slice B ws.length d) := by rw [Bw_t14.cell]; rfl
  go_wp2
  go_ret
  exact ⟨_, rfl, s_n.low (by have := hgw; first | exact this | omega), hw_t14⟩

noncomputable def newA (z : Int) (l : List V) : Int := if versB z l then z else 0
set_option maxHeartbeats 2000000 in
theorem specWorkNew (z : Int) (A : Option Addr) (c : Nat) (l : List V) (w : World) (hf : FitVs l) (hc : l.length ≤ c) (hm : c ≤ maxLen) (hl : l.length ≤ 1048576) (hr : RdG w w.heap.size A l) :
  Calls Tryz.prog 79 #[.agg #[.int .i64 z, .slice A l.length c]] w (RetX w (newA z l) []) := by
 go_enter Tryz.func79, Tryz.ntmps79
 have hb_t1 := below_alloc (Below.refl _ w) (.cells #[.int .i64 z, .slice A l.length c] 32)
 have Bv_t1 := blkA w #[.int .i64 z, .slice A l.length c] 32
 have hz_t1 : (w.alloc (.cells #[.int .i64 z, .slice A l.length c] 32)).heap.size = w.heap.size + 1 := World.size_alloc _ _
 have hw_t2 := hb_t1
 have hs_t2 := hb_t1.size
 have hb_t4 := below_alloc (Below.refl _ (w.alloc (.cells #[.int .i64 z, .slice A l.length c] 32))) (.cells #[.int .i64 0, .slice none 0 0] 25)
 have Rt_t4 := blkA (w.alloc (.cells #[.int .i64 z, .slice A l.length c] 32)) #[.int .i64 0, .slice none 0 0] 25
 simp only [World.size_alloc] at Rt_t4
 have hz_t4 : ((w.alloc (.cells #[.int .i64 z, .slice A l.length c] 32)).alloc (.cells #[.int .i64 0, .slice none 0 0] 25)).heap.size = (w.alloc (.cells #[.int .i64 z, .slice A l.length c] 32)).heap.size + 1 := World.size_alloc _ _
 have Bv_t5 := Bv_t1.next hb_t4
 clear Bv_t1
 have hw_t5 := below_next hw_t2 hb_t4
 have hs_t5 := hb_t4.size
 have v_0 := hr.next hw_t5
 cases hv : versB z l
 ·
  have HE : Hid (newA z l = 0) := Lib.hid (by unfold newA; rw [hv]; rfl)
  have qBv0 : ((w.alloc (.cells #[.int .i64 z, .slice A l.length c] 32)).alloc (.cells #[.int .i64 0, .slice none 0 0] 25)).cell? ⟨w.heap.size, 0, none⟩ = some (.int .i64 z) := by rw [Bv_t5.cell]; rfl
  have qBv1 : ((w.alloc (.cells #[.int .i64 z, .slice A l.length c] 32)).alloc (.cells #[.int .i64 0, .slice none 0 0] 25)).cell? ⟨w.heap.size, 1, none⟩ = some (.slice A l.length c) := by rw [Bv_t5.cell]; rfl
  have qRt0 : ((w.alloc (.cells #[.int .i64 z, .slice A l.length c] 32)).alloc (.cells #[.int .i64 0, .slice none 0 0] 25)).cell? ⟨w.heap.size + 1, 0, none⟩ = some (.int .i64 0) := by rw [Rt_t4.cell]; rfl
  have qRt1 : ((w.alloc (.cells #[.int .i64 z, .slice A l.length c] 32)).alloc (.cells #[.int .i64 0, .slice none 0 0] 25)).cell? ⟨w.heap.size + 1, 1, none⟩ = some (.slice none 0 0) := by rw [Rt_t4.cell]; rfl
  go_wp2_with fail
  clear qBv0 qBv1 qRt0 qRt1
  refine (specVersOk z A c l _ hf hc hm v_0).mono ?_
  rintro e w1 ⟨rfl, hb1⟩
  rw [hv]
  have v_t7 := v_0.next hb1
  clear v_0
  have Bv_t7 := Bv_t5.next hb1
  clear Bv_t5
  have Rt_t7 := Rt_t4.next hb1
  clear Rt_t4
  have hw_t7 := below_next hw_t5 hb1
  have hs_t7 := hb1.size
  have qBv0 : w1.cell? ⟨w.heap.size, 0, none⟩ = some (.int .i64 z) := by rw [Bv_t7.cell]; rfl
  have qBv1 : w1.cell? ⟨w.heap.size, 1, none⟩ = some (.slice A l.length c) := by rw [Bv_t7.cell]; rfl
  have qRt0 : w1.cell? ⟨w.heap.size + 1, 0, none⟩ = some (.int .i64 0) := by rw [Rt_t7.cell]; rfl
  have qRt1 : w1.cell? ⟨w.heap.size + 1, 1, none⟩ = some (.slice none 0 0) := by rw [Rt_t7.cell]; rfl
  have d0 := qRt0
  have d1 := qRt1
  have fz0 := Rt_t7.free 0
  have fz1 := Rt_t7.free 1
  go_wp2
  refine bodyPost_ret (v := .agg #[.int .i64 0, .slice none 0 0]) (by simp [results, Tryz.results79, go_sem, d0, d1]) rfl ?_
  refine ⟨.slice none 0 0, (by first | (rw [HE.out]; done) | (rw [HE.out]; rfl)), ?_, ?_⟩
  ·
   exact OwnG.nil _ _
  ·
   exact (hw_t7.setCell (show w.heap.size ≤ w.heap.size + 1 from by omega) _).setCell (show w.heap.size ≤ w.heap.size + 1 from by omega) _
 ·
  have HE : Hid (newA z l = z) := Lib.hid (by unfold newA; rw [hv]; rfl)
  have qBv0 : ((w.alloc (.cells #[.int .i64 z, .slice A l.length c] 32)).alloc (.cells #[.int .i64 0, .slice none 0 0] 25)).cell? ⟨w.heap.size, 0, none⟩ = some (.int .i64 z) := by rw [Bv_t5.cell]; rfl
  have qBv1 : ((w.alloc (.cells #[.int .i64 z, .slice A l.length c] 32)).alloc (.cells #[.int .i64 0, .slice none 0 0] 25)).cell? ⟨w.heap.size, 1, none⟩ = some (.slice A l.length c) := by rw [Bv_t5.cell]; rfl
  have qRt0 : ((w.alloc (.cells #[.int .i64 z, .slice A l.length c] 32)).alloc (.cells #[.int .i64 0, .slice none 0 0] 25)).cell? ⟨w.heap.size + 1, 0, none⟩ = some (.int .i64 0) := by rw [Rt_t4.cell]; rfl
  have qRt1 : ((w.alloc (.cells #[.int .i64 z, .slice A l.length c] 32)).alloc (.cells #[.int .i64 0, .slice none 0 0] 25)).cell? ⟨w.heap.size + 1, 1, none⟩ = some (.slice none 0 0) := by rw [Rt_t4.cell]; rfl
  go_wp2_with fail
  clear qBv0 qBv1 qRt0 qRt1
  refine (specVersOk z A c l _ hf hc hm v_0).mono ?_
  rintro e w1 ⟨rfl, hb1⟩
  rw [hv]
  have v_t7 := v_0.next hb1
  clear v_0
  have Bv_t7 := Bv_t5.next hb1
  clear Bv_t5
  have Rt_t7 := Rt_t4.next hb1
  clear Rt_t4
  have hw_t7 := below_next hw_t5 hb1
  have hs_t7 := hb1.size
  have hgl_t9 := Rt_t7.lt
  have rBv0 : w1.cell? ⟨w.heap.size, 0, none⟩ = some (.int .i64 z) := by rw [Bv_t7.cell]; rfl
  have rBv1 : w1.cell? ⟨w.heap.size, 1, none⟩ = some (.slice A l.length c) := by rw [Bv_t7.cell]; rfl
  have rRt0 : w1.cell? ⟨w.heap.size + 1, 0, none⟩ = some (.int .i64 0) := by rw [Rt_t7.cell]; rfl
  have rRt1 : w1.cell? ⟨w.heap.size + 1, 1, none⟩ = some (.slice none 0 0) := by rw [Rt_t7.cell]; rfl
  have gz0 := Rt_t7.free 0
  have gz1 := Rt_t7.free 1
  have hsw := hw_t7.size
  have hsz : ((w1.setCell ⟨w.heap.size + 1, 0, none⟩ (.int .i64 z)).setCell ⟨w.heap.size + 1, 1, none⟩ (.slice (some ⟨w1.heap.size, 0, none⟩) 0 0)).heap.size = w1.heap.size := by simp [World.setCell]
  have HSZ := Lib.hid hsz
  clear hsz
  have hRf := ((Rt_t7.set_ 0 (.int .i64 z)).set_ 1 (.slice (some ⟨w1.heap.size, 0, none⟩) 0 0)).alloc (.cells #[] 98)
  have r0 : (((w1.setCell ⟨w.heap.size + 1, 0, none⟩ (.int .i64 z)).setCell ⟨w.heap.size + 1, 1, none⟩ (.slice (some ⟨w1.heap.size, 0, none⟩) 0 0)).alloc (.cells #[] 98)).cell? ⟨w.heap.size + 1, 0, none⟩ = some (.int .i64 z) := by rw [hRf.cell]; rfl
  have r1 : (((w1.setCell ⟨w.heap.size + 1, 0, none⟩ (.int .i64 z)).setCell ⟨w.heap.size + 1, 1, none⟩ (.slice (some ⟨w1.heap.size, 0, none⟩) 0 0)).alloc (.cells #[] 98)).cell? ⟨w.heap.size + 1, 1, none⟩ = some (.slice (some ⟨w1.heap.size, 0, none⟩) 0 0) := by rw [hRf.cell]; rfl
  have R0 := Lib.hid r0
  have R1 := Lib.hid r1
  clear r0 r1
  go_wp2
  refine bodyPost_ret (v := .agg #[.int .i64 z, .slice (some ⟨w1.heap.size, 0, none⟩) 0 0]) (by simp [results, Tryz.results79, go_sem, R0.out, R1.out]) rfl ?_
  refine ⟨.slice (some ⟨w1.heap.size, 0, none⟩) 0 0, by rw [HE.out], ?_, ?_⟩
  ·
   have hq := OwnG.fresh (α := X) ((w1.setCell ⟨w.heap.size + 1, 0, none⟩ (.int .i64 z)).setCell ⟨w.heap.size + 1, 1, none⟩ (.slice (some ⟨w1.heap.size, 0, none⟩) 0 0)) w.heap.size (by rw [HSZ.out]; exact hsw)
   rw [HSZ.out] at hq
   exact hq
  ·
   exact below_alloc ((hw_t7.setCell (show w.heap.size ≤ w.heap.size + 1 from by omega) _).setCell (show w.heap.size ≤ w.heap.size + 1 from by omega) _) _

set_option maxHeartbeats 4000000 in
theorem specWorkEnd (z : Int) (A : Option Addr) (c : Nat) (l : List V) (a : Int) (B : Option Addr) (d : Nat) (ws : List X) (w : World) (hf : FitVs l) (hc : l.length ≤ c) (hm : c ≤ maxLen) (hl : l.length ≤ 1048576) (hfx : FitXs ws) (hd : ws.length ≤ d) (hmd : d ≤ maxLen) (hlx : ws.length ≤ 1048576) (hr : RdG w w.heap.size A l) (hrx : RdG w w.heap.size B ws) :
  Calls Tryz.prog 104 #[.agg #[.int .i64 z, .slice A l.length c], .agg #[.int .i64 a, .slice B ws.length d]] w (RetVC w (endZ z l a ws) (endL z l a ws) (endC z l a ws)) := by
 go_enter Tryz.func104, Tryz.ntmps104
 have hb_t1 := below_alloc (Below.refl _ w) (.cells #[.int .i64 z, .slice A l.length c] 32)
 have Bv_t1 := blkA w #[.int .i64 z, .slice A l.length c] 32
 have hz_t1 : (w.alloc (.cells #[.int .i64 z, .slice A l.length c] 32)).heap.size = w.heap.size + 1 := World.size_alloc _ _
 have hw_t2 := hb_t1
 have hs_t2 := hb_t1.size
 have hb_t4 := below_alloc (Below.refl _ (w.alloc (.cells #[.int .i64 z, .slice A l.length c] 32))) (.cells #[.int .i64 a, .slice B ws.length d] 25)
 have Bw_t4 := blkA (w.alloc (.cells #[.int .i64 z, .slice A l.length c] 32)) #[.int .i64 a, .slice B ws.length d] 25
 simp only [World.size_alloc] at Bw_t4
 have hz_t4 : ((w.alloc (.cells #[.int .i64 z, .slice A l.length c] 32)).alloc (.cells #[.int .i64 a, .slice B ws.length d] 25)).heap.size = (w.alloc (.cells #[.int .i64 z, .slice A l.length c] 32)).heap.size + 1 := World.size_alloc _ _
 have Bv_t5 := Bv_t1.next hb_t4
 clear Bv_t1
 have hw_t5 := below_next hw_t2 hb_t4
 have hs_t5 := hb_t4.size
 have hb_t7 := below_alloc (Below.refl _ ((w.alloc (.cells #[.int .i64 z, .slice A l.length c] 32)).alloc (.cells #[.int .i64 a, .slice B ws.length d] 25))) (.cells #[.int .i64 0, .slice none 0 0] 32)
 have Rt_t7 := blkA ((w.alloc (.cells #[.int .i64 z, .slice A l.length c] 32)).alloc (.cells #[.int .i64 a, .slice B ws.length d] 25)) #[.int .i64 0, .slice none 0 0] 32
 simp only [World.size_alloc] at Rt_t7
 have hz_t7 : (((w.alloc (.cells #[.int .i64 z, .slice A l.length c] 32)).alloc (.cells #[.int .i64 a, .slice B ws.length d] 25)).alloc (.cells #[.int .i64 0, .slice none 0 0] 32)).heap.size = ((w.alloc (.cells #[.int .i64 z, .slice A l.length c] 32)).alloc (.cells #[.int .i64 a, .slice B ws.length d] 25)).heap.size + 1 := World.size_alloc _ _
 have Bv_t8 := Bv_t5.next hb_t7
 clear Bv_t5
 have Bw_t8 := Bw_t4.next hb_t7
 clear Bw_t4
 have hw_t8 := below_next hw_t5 hb_t7
 have hs_t8 := hb_t7.size
 have v_0 := hr.next hw_t8
 have x_0 := hrx.next hw_t8
 cases hk : workB z l a ws
 ·
  have HE : Hid (endC z l a ws = 1 ∧ endZ z l a ws = 0 ∧ endL z l a ws = []) := Lib.hid (by unfold endC endZ endL; rw [hk]; exact ⟨rfl, rfl, rfl⟩)
  have qBv0 : (((w.alloc (.cells #[.int .i64 z, .slice A l.length c] 32)).alloc (.cells #[.int .i64 a, .slice B ws.length d] 25)).alloc (.cells #[.int .i64 0, .slice none 0 0] 32)).cell? ⟨w.heap.size, 0, none⟩ = some (.int .i64 z) := by rw [Bv_t8.cell]; rfl
  have qBv1 : (((w.alloc (.cells #[.int .i64 z, .slice A l.length c] 32)).alloc (.cells #[.int .i64 a, .slice B ws.length d] 25)).alloc (.cells #[.int .i64 0, .slice none 0 0] 32)).cell? ⟨w.heap.size, 1, none⟩ = some (.slice A l.length c) := by rw [Bv_t8.cell]; rfl
  have qBw0 : (((w.alloc (.cells #[.int .i64 z, .slice A l.length c] 32)).alloc (.cells #[.int .i64 a, .slice B ws.length d] 25)).alloc (.cells #[.int .i64 0, .slice none 0 0] 32)).cell? ⟨w.heap.size + 1, 0, none⟩ = some (.int .i64 a) := by rw [Bw_t8.cell]; rfl
  have qBw1 : (((w.alloc (.cells #[.int .i64 z, .slice A l.length c] 32)).alloc (.cells #[.int .i64 a, .slice B ws.length d] 25)).alloc (.cells #[.int .i64 0, .slice none 0 0] 32)).cell? ⟨w.heap.size + 1, 1, none⟩ = some (.slice B ws.length d) := by rw [Bw_t8.cell]; rfl
  have qRt0 : (((w.alloc (.cells #[.int .i64 z, .slice A l.length c] 32)).alloc (.cells #[.int .i64 a, .slice B ws.length d] 25)).alloc (.cells #[.int .i64 0, .slice none 0 0] 32)).cell? ⟨w.heap.size + 2, 0, none⟩ = some (.int .i64 0) := by rw [Rt_t7.cell]; rfl
  have qRt1 : (((w.alloc (.cells #[.int .i64 z, .slice A l.length c] 32)).alloc (.cells #[.int .i64 a, .slice B ws.length d] 25)).alloc (.cells #[.int .i64 0, .slice none 0 0] 32)).cell? ⟨w.heap.size + 2, 1, none⟩ = some (.slice none 0 0) := by rw [Rt_t7.cell]; rfl
  go_wp2_with fail
  clear qBv0 qBv1 qBw0 qBw1 qRt0 qRt1
  refine (specWorkOk z A c l a B d ws _ hf hc hm hl hfx hd hmd hlx v_0 x_0).mono ?_
  rintro e w1 ⟨rfl, hb1⟩
  rw [hk]
  have v_t10 := v_0.next hb1
  clear v_0
  have x_t10 := x_0.next hb1
  clear x_0
  have Bv_t10 := Bv_t8.next hb1
  clear Bv_t8
  have Bw_t10 := Bw_t8.next hb1
  clear Bw_t8
  have Rt_t10 := Rt_t7.next hb1
  clear Rt_t7
  have hw_t10 := below_next hw_t8 hb1
  have hs_t10 := hb1.size
  have qBv0 : w1.cell? ⟨w.heap.size, 0, none⟩ = some (.int .i64 z) := by rw [Bv_t10.cell]; rfl
  have qBv1 : w1.cell? ⟨w.heap.size, 1, none⟩ = some (.slice A l.length c) := by rw [Bv_t10.cell]; rfl
  have qBw0 : w1.cell? ⟨w.heap.size + 1, 0, none⟩ = some (.int .i64 a) := by rw [Bw_t10.cell]; rfl
  have qBw1 : w1.cell? ⟨w.heap.size + 1, 1, none⟩ = some (.slice B ws.length d) := by rw [Bw_t10.cell]; rfl
  have qRt0 : w1.cell? ⟨w.heap.size + 2, 0, none⟩ = some (.int .i64 0) := by rw [Rt_t10.cell]; rfl
  have qRt1 : w1.cell? ⟨w.heap.size + 2, 1, none⟩ = some (.slice none 0 0) := by rw [Rt_t10.cell]; rfl
  have d0 := qRt0
  have d1 := qRt1
  have fz0 := Rt_t10.free 0
  have fz1 := Rt_t10.free 1
  go_wp2
  refine bodyPost_ret (v := .tuple #[.agg #[.int .i64 0, .slice none 0 0], .int .i64 1]) (by simp [results, Tryz.results104, go_sem, d0, d1]) rfl ?_
  refine ⟨.slice none 0 0, (by first | (rw [HE.out.1, HE.out.2.1]; done) | (rw [HE.out.1, HE.out.2.1]; rfl)), ?_, ?_⟩
  ·
   rw [HE.out.2.2]; exact OwnG.nil _ _
  ·
   exact (hw_t10.setCell (show w.heap.size ≤ w.heap.size + 2 from by omega) _).setCell (show w.heap.size ≤ w.heap.size + 2 from by omega) _
 ·
  have hP := workB_iff.1 hk
  have hlw := hP.wr.len
  have hll := hP.vers.len
  have HP : Hid (WorkP z l a ws) := Lib.hid hP
  clear hP
  have qBv0 : (((w.alloc (.cells #[.int .i64 z, .slice A l.length c] 32)).alloc (.cells #[.int .i64 a, .slice B ws.length d] 25)).alloc (.cells #[.int .i64 0, .slice none 0 0] 32)).cell? ⟨w.heap.size, 0, none⟩ = some (.int .i64 z) := by rw [Bv_t8.cell]; rfl
  have qBv1 : (((w.alloc (.cells #[.int .i64 z, .slice A l.length c] 32)).alloc (.cells #[.int .i64 a, .slice B ws.length d] 25)).alloc (.cells #[.int .i64 0, .slice none 0 0] 32)).cell? ⟨w.heap.size, 1, none⟩ = some (.slice A l.length c) := by rw [Bv_t8.cell]; rfl
  have qBw0 : (((w.alloc (.cells #[.int .i64 z, .slice A l.length c] 32)).alloc (.cells #[.int .i64 a, .slice B ws.length d] 25)).alloc (.cells #[.int .i64 0, .slice none 0 0] 32)).cell? ⟨w.heap.size + 1, 0, none⟩ = some (.int .i64 a) := by rw [Bw_t8.cell]; rfl
  have qBw1 : (((w.alloc (.cells #[.int .i64 z, .slice A l.length c] 32)).alloc (.cells #[.int .i64 a, .slice B ws.length d] 25)).alloc (.cells #[.int .i64 0, .slice none 0 0] 32)).cell? ⟨w.heap.size + 1, 1, none⟩ = some (.slice B ws.length d) := by rw [Bw_t8.cell]; rfl
  have qRt0 : (((w.alloc (.cells #[.int .i64 z, .slice A l.length c] 32)).alloc (.cells #[.int .i64 a, .slice B ws.length d] 25)).alloc (.cells #[.int .i64 0, .slice none 0 0] 32)).cell? ⟨w.heap.size + 2, 0, none⟩ = some (.int .i64 0) := by rw [Rt_t7.cell]; rfl
  have qRt1 : (((w.alloc (.cells #[.int .i64 z, .slice A l.length c] 32)).alloc (.cells #[.int .i64 a, .slice B ws.length d] 25)).alloc (.cells #[.int .i64 0, .slice none 0 0] 32)).cell? ⟨w.heap.size + 2, 1, none⟩ = some (.slice none 0 0) := by rw [Rt_t7.cell]; rfl
  go_wp2_with fail
  clear qBv0 qBv1 qBw0 qBw1 qRt0 qRt1
  refine (specWorkOk z A c l a B d ws _ hf hc hm hl hfx hd hmd hlx v_0 x_0).mono ?_
  rintro e w1 ⟨rfl, hb1⟩
  rw [hk]
  have v_t10 := v_0.next hb1
  clear v_0
  have x_t10 := x_0.next hb1
  clear x_0
  have Bv_t10 := Bv_t8.next hb1
  clear Bv_t8
  have Bw_t10 := Bw_t8.next hb1
  clear Bw_t8
  have Rt_t10 := Rt_t7.next hb1
  clear Rt_t7
  have hw_t10 := below_next hw_t8 hb1
  have hs_t10 := hb1.size
  have qBv0 : w1.cell? ⟨w.heap.size, 0, none⟩ = some (.int .i64 z) := by rw [Bv_t10.cell]; rfl
  have qBv1 : w1.cell? ⟨w.heap.size, 1, none⟩ = some (.slice A l.length c) := by rw [Bv_t10.cell]; rfl
  have qBw0 : w1.cell? ⟨w.heap.size + 1, 0, none⟩ = some (.int .i64 a) := by rw [Bw_t10.cell]; rfl
  have qBw1 : w1.cell? ⟨w.heap.size + 1, 1, none⟩ = some (.slice B ws.length d) := by rw [Bw_t10.cell]; rfl
  have qRt0 : w1.cell? ⟨w.heap.size + 2, 0, none⟩ = some (.int .i64 0) := by rw [Rt_t10.cell]; rfl
  have qRt1 : w1.cell? ⟨w.heap.size + 2, 1, none⟩ = some (.slice none 0 0) := by rw [Rt_t10.cell]; rfl
  go_wp2
  clear qBv0 qBv1 qBw0 qBw1 qRt0 qRt1
  go_loopw [6] (fun i W => ∃ k : Nat, k ≤ ws.length ∧ i = .int .i64 k ∧ Hid (lateB l a (ws.take k) = false) ∧ Below w1.heap.size w1 W) (fun i _ => ws.length - (intOf i).toNat)
  case atStart => exact ⟨0, Nat.zero_le _, rfl, Lib.hid rfl, Below.refl _ _⟩
  case round =>
   obtain ⟨k, hkk, rfl, HLT, hbl⟩ := hrel
   have lq0 := hbl
   have v_t12 := v_t10.next hbl
   clear v_t10
   have x_t12 := x_t10.next hbl
   clear x_t10
   have Bv_t12 := Bv_t10.next hbl
   clear Bv_t10
   have Bw_t12 := Bw_t10.next hbl
   clear Bw_t10
   have Rt_t12 := Rt_t10.next hbl
   clear Rt_t10
   have hw_t12 := below_next hw_t10 hbl
   have hs_t12 := hbl.size
   by_cases hlt : k < ws.length
   ·
    have hkI := lenI _ _ hlt
    obtain ⟨ebE, eoE, rfl, hqE, _⟩ := x_t12.atX hlt
    clear hqE
    have HS := Lib.hid (late_succ (l := l) (a := a) hlt)
    obtain ⟨L0, HL0⟩ : ∃ L0, Hid (lastL l ws[k].k = L0) := ⟨_, Lib.hid rfl⟩
    by_cases hlate : a < L0
    ·
     have hdl : decide (a < L0) = true := decide_eq_true hlate
     have HA : Hid (lateB l a ws = true) := Lib.hid (late_in hlt (by rw [HL0.out]; exact hlate))
     have HE : Hid (endC z l a ws = 2 ∧ endZ z l a ws = z ∧ endL z l a ws = l) := Lib.hid (by unfold endC endZ endL; rw [hk, HA.out]; exact ⟨rfl, rfl, rfl⟩)
     have qBv0 : wr.cell? ⟨w.heap.size, 0, none⟩ = some (.int .i64 z) := by rw [Bv_t12.cell]; rfl
     have qBv1 : wr.cell? ⟨w.heap.size, 1, none⟩ = some (.slice A l.length c) := by rw [Bv_t12.cell]; rfl
     have qBw0 : wr.cell? ⟨w.heap.size + 1, 0, none⟩ = some (.int .i64 a) := by rw [Bw_t12.cell]; rfl
     have qBw1 : wr.cell? ⟨w.heap.size + 1, 1, none⟩ = some (.slice (some ⟨ebE, eoE, none⟩) ws.length d) := by rw [Bw_t12.cell]; rfl
     have qRt0 : wr.cell? ⟨w.heap.size + 2, 0, none⟩ = some (.int .i64 0) := by rw [Rt_t12.cell]; rfl
     have qRt1 : wr.cell? ⟨w.heap.size + 2, 1, none⟩ = some (.slice none 0 0) := by rw [Rt_t12.cell]; rfl
     have qE0 : wr.cell? ⟨ebE, eoE + k * 3, none⟩ = some (.string ws[k].k) := (x_t12.fixX rfl hlt).1
     have qE1 : wr.cell? ⟨ebE, eoE + k * 3 + 1, none⟩ = some (.int .i64 ws[k].n) := (x_t12.fixX rfl hlt).2.1
     have qE2 : wr.cell? ⟨ebE, eoE + k * 3 + 2, none⟩ = some (.bool ws[k].g) := (x_t12.fixX rfl hlt).2.2
     go_wp2
     clear qBv0 qBv1 qBw0 qBw1 qRt0 qRt1
     clear qE0 qE1 qE2
     have hb_t14 : Below wr.heap.size wr wr.drew := (Below.refl _ _).drew
     have v_t15 := v_t12.next hb_t14
     clear v_t12
     have x_t15 := x_t12.next hb_t14
     clear x_t12
     have Bv_t15 := Bv_t12.next hb_t14
     clear Bv_t12
     have Bw_t15 := Bw_t12.next hb_t14
     clear Bw_t12
     have Rt_t15 := Rt_t12.next hb_t14
     clear Rt_t12
     have hw_t15 := below_next hw_t12 hb_t14
     have hs_t15 := hb_t14.size
     have lw0_t16 := below_next lq0 hb_t14
     refine wp_region_held_drew (S := (fun W => W.cell? ⟨w.heap.size, 0, none⟩ = some (.int .i64 z) ∧ W.cell? ⟨w.heap.size, 1, none⟩ = some (.slice A l.length c) ∧ W.cell? ⟨w.heap.size + 1, 0, none⟩ = some (.int .i64 a) ∧ W.cell? ⟨w.heap.size + 1, 1, none⟩ = some (.slice (some ⟨ebE, eoE, none⟩) ws.length d) ∧ W.cell? ⟨w.heap.size + 2, 0, none⟩ = some (.int .i64 0) ∧ W.cell? ⟨w.heap.size + 2, 1, none⟩ = some (.slice none 0 0) ∧ W.cell? ⟨ebE, eoE + k * 3, none⟩ = some (.string ws[k].k) ∧ W.cell? ⟨ebE, eoE + k * 3 + 1, none⟩ = some (.int .i64 ws[k].n) ∧ W.cell? ⟨ebE, eoE + k * 3 + 2, none⟩ = some (.bool ws[k].g))) (by kernel_rfl) ?_ (fun hHeld => ?_)
     focus ((try dsimp only); (exact ⟨by rw [Bv_t15.cell]; rfl, by rw [Bv_t15.cell]; rfl, by rw [Bw_t15.cell]; rfl, by rw [Bw_t15.cell]; rfl, by rw [Rt_t15.cell]; rfl, by rw [Rt_t15.cell]; rfl, (x_t15.fixX rfl hlt).1, (x_t15.fixX rfl hlt).2.1, (x_t15.fixX rfl hlt).2.2⟩))
     refine tk 0 ?_
     refine tk 1 ?_
     refine tk 2 ?_
     refine tk 3 ?_
     refine tk 4 ?_
     refine tk 5 ?_
     refine tk 6 ?_
     refine tk 8 ?_
     refine tk 9 ?_
     (refine rd1 7 (fun K hK => ?_); go_simp; (go_at_call 117; refine (specLast z A c l ws[k].k _ hl v_t15).mono ?_; rintro e w2 ⟨rfl, hb2⟩; rw [HL0.out]; have v_t17 := v_t15.next hb2; clear v_t15; have x_t17 := x_t15.next hb2; clear x_t15; have Bv_t17 := Bv_t15.next hb2; clear Bv_t15; have Bw_t17 := Bw_t15.next hb2; clear Bw_t15; have Rt_t17 := Rt_t15.next hb2; clear Rt_t15; have hw_t17 := below_next hw_t15 hb2; have hs_t17 := hb2.size; have lw0_t18 := below_next lw0_t16 hb2); go_wp2_with fail; refine hK.out _ _ ?_ (fun hHeld => ?_); (focus ((try dsimp only); (exact ⟨by rw [Bv_t17.cell]; rfl, by rw [Bv_t17.cell]; rfl, by rw [Bw_t17.cell]; rfl, by rw [Bw_t17.cell]; rfl, by rw [Rt_t17.cell]; rfl, by rw [Rt_t17.cell]; rfl, (x_t17.fixX rfl hlt).1, (x_t17.fixX rfl hlt).2.1, (x_t17.fixX rfl hlt).2.2⟩))); clear hK K; (try simp only [Act.put, pa, pb, pc]))
     refine tk 10 ?_
     refine wpAnyH_done (by kernel_rfl) ?_ _
     have hgl_t19 := Rt_t17.lt
     have qBv0 : w2.cell? ⟨w.heap.size, 0, none⟩ = some (.int .i64 z) := by rw [Bv_t17.cell]; rfl
     have qBv1 : w2.cell? ⟨w.heap.size, 1, none⟩ = some (.slice A l.length c) := by rw [Bv_t17.cell]; rfl
     have qBw0 : w2.cell? ⟨w.heap.size + 1, 0, none⟩ = some (.int .i64 a) := by rw [Bw_t17.cell]; rfl
     have qBw1 : w2.cell? ⟨w.heap.size + 1, 1, none⟩ = some (.slice (some ⟨ebE, eoE, none⟩) ws.length d) := by rw [Bw_t17.cell]; rfl
     have qRt0 : w2.cell? ⟨w.heap.size + 2, 0, none⟩ = some (.int .i64 0) := by rw [Rt_t17.cell]; rfl
     have qRt1 : w2.cell? ⟨w.heap.size + 2, 1, none⟩ = some (.slice none 0 0) := by rw [Rt_t17.cell]; rfl
     have qE0 : w2.cell? ⟨ebE, eoE + k * 3, none⟩ = some (.string ws[k].k) := (x_t17.fixX rfl hlt).1
     have qE1 : w2.cell? ⟨ebE, eoE + k * 3 + 1, none⟩ = some (.int .i64 ws[k].n) := (x_t17.fixX rfl hlt).2.1
     have qE2 : w2.cell? ⟨ebE, eoE + k * 3 + 2, none⟩ = some (.bool ws[k].g) := (x_t17.fixX rfl hlt).2.2
     go_wp2_with fail
     clear qBv0 qBv1 qBw0 qBw1 qRt0 qRt1
     clear qE0 qE1 qE2
     refine (l2Copy_c z A c l _ (by omega) v_t17).mono ?_
     rintro e w3 ⟨Vy, rfl, y_n, hb3⟩
     have HNy : Hid (∀ k, Vy.ownBlock = some k → k ≠ w.heap.size + 2) := Lib.hid (fun k hk => by have := (y_n.block_lt hk).1; omega)
     obtain ⟨ady, cy, rfl, ry1_y, ry2_y, ry3_y⟩ := y_n.read
     clear ry1_y ry2_y ry3_y
     have v_t20 := v_t17.next hb3
     clear v_t17
     have x_t20 := x_t17.next hb3
     clear x_t17
     have Bv_t20 := Bv_t17.next hb3
     clear Bv_t17
     have Bw_t20 := Bw_t17.next hb3
     clear Bw_t17
     have Rt_t20 := Rt_t17.next hb3
     clear Rt_t17
     have hw_t20 := below_next hw_t17 hb3
     have hs_t20 := hb3.size
     have lw0_t21 := below_next lw0_t18 hb3
     have qBv0 : w3.cell? ⟨w.heap.size, 0, none⟩ = some (.int .i64 z) := by rw [Bv_t20.cell]; rfl
     have qBv1 : w3.cell? ⟨w.heap.size, 1, none⟩ = some (.slice A l.length c) := by rw [Bv_t20.cell]; rfl
     have qBw0 : w3.cell? ⟨w.heap.size + 1, 0, none⟩ = some (.int .i64 a) := by rw [Bw_t20.cell]; rfl
     have qBw1 : w3.cell? ⟨w.heap.size + 1, 1, none⟩ = some (.slice (some ⟨ebE, eoE, none⟩) ws.length d) := by rw [Bw_t20.cell]; rfl
     have qRt0 : w3.cell? ⟨w.heap.size + 2, 0, none⟩ = some (.int .i64 0) := by rw [Rt_t20.cell]; rfl
     have qRt1 : w3.cell? ⟨w.heap.size + 2, 1, none⟩ = some (.slice none 0 0) := by rw [Rt_t20.cell]; rfl
     have qE0 : w3.cell? ⟨ebE, eoE + k * 3, none⟩ = some (.string ws[k].k) := (x_t20.fixX rfl hlt).1
     have qE1 : w3.cell? ⟨ebE, eoE + k * 3 + 1, none⟩ = some (.int .i64 ws[k].n) := (x_t20.fixX rfl hlt).2.1
     have qE2 : w3.cell? ⟨ebE, eoE + k * 3 + 2, none⟩ = some (.bool ws[k].g) := (x_t20.fixX rfl hlt).2.2
     have d0 := qRt0
     have d1 := qRt1
     have fz0 := Rt_t20.free 0
     have fz1 := Rt_t20.free 1
     go_wp2
     refine bodyPost_ret (v := .tuple #[.agg #[.int .i64 z, .slice ady l.length cy], .int .i64 2]) (by simp [results, Tryz.results104, go_sem, d0, d1]) rfl ?_
     refine ⟨.slice ady l.length cy, (by first | (rw [HE.out.1, HE.out.2.1]; done) | (rw [HE.out.1, HE.out.2.1]; rfl)), ?_, ?_⟩
     ·
      have hne : ∀ k, (.slice ady l.length cy : Value).ownBlock = some k → k ≠ w.heap.size + 2 := HNy.out
      rw [HE.out.2.2]
      exact ((y_n.setCell (a := ⟨w.heap.size + 2, 0, none⟩) hne _).setCell (a := ⟨w.heap.size + 2, 1, none⟩) hne _).low (by omega)
     ·
      exact (hw_t20.setCell (show w.heap.size ≤ w.heap.size + 2 from by omega) _).setCell (show w.heap.size ≤ w.heap.size + 2 from by omega) _
    ·
     have hdl : decide (a < L0) = false := decide_eq_false hlate
     have HN : Hid (lateB l a (ws.take (k + 1)) = false) := Lib.hid (by rw [HS.out, HLT.out, HL0.out, hdl]; rfl)
     have qBv0 : wr.cell? ⟨w.heap.size, 0, none⟩ = some (.int .i64 z) := by rw [Bv_t12.cell]; rfl
     have qBv1 : wr.cell? ⟨w.heap.size, 1, none⟩ = some (.slice A l.length c) := by rw [Bv_t12.cell]; rfl
     have qBw0 : wr.cell? ⟨w.heap.size + 1, 0, none⟩ = some (.int .i64 a) := by rw [Bw_t12.cell]; rfl
     have qBw1 : wr.cell? ⟨w.heap.size + 1, 1, none⟩ = some (.slice (some ⟨ebE, eoE, none⟩) ws.length d) := by rw [Bw_t12.cell]; rfl
     have qRt0 : wr.cell? ⟨w.heap.size + 2, 0, none⟩ = some (.int .i64 0) := by rw [Rt_t12.cell]; rfl
     have qRt1 : wr.cell? ⟨w.heap.size + 2, 1, none⟩ = some (.slice none 0 0) := by rw [Rt_t12.cell]; rfl
     have qE0 : wr.cell? ⟨ebE, eoE + k * 3, none⟩ = some (.string ws[k].k) := (x_t12.fixX rfl hlt).1
     have qE1 : wr.cell? ⟨ebE, eoE + k * 3 + 1, none⟩ = some (.int .i64 ws[k].n) := (x_t12.fixX rfl hlt).2.1
     have qE2 : wr.cell? ⟨ebE, eoE + k * 3 + 2, none⟩ = some (.bool ws[k].g) := (x_t12.fixX rfl hlt).2.2
     go_wp2
     clear qBv0 qBv1 qBw0 qBw1 qRt0 qRt1
     clear qE0 qE1 qE2
     have hb_t14 : Below wr.heap.size wr wr.drew := (Below.refl _ _).drew
     have v_t15 := v_t12.next hb_t14
     clear v_t12
     have x_t15 := x_t12.next hb_t14
     clear x_t12
     have Bv_t15 := Bv_t12.next hb_t14
     clear Bv_t12
     have Bw_t15 := Bw_t12.next hb_t14
     clear Bw_t12
     have Rt_t15 := Rt_t12.next hb_t14
     clear Rt_t12
     have hw_t15 := below_next hw_t12 hb_t14
     have hs_t15 := hb_t14.size
     have lw0_t16 := below_next lq0 hb_t14
     refine wp_region_held_drew (S := (fun W => W.cell? ⟨w.heap.size, 0, none⟩ = some (.int .i64 z) ∧ W.cell? ⟨w.heap.size, 1, none⟩ = some (.slice A l.length c) ∧ W.cell? ⟨w.heap.size + 1, 0, none⟩ = some (.int .i64 a) ∧ W.cell? ⟨w.heap.size + 1, 1, none⟩ = some (.slice (some ⟨ebE, eoE, none⟩) ws.length d) ∧ W.cell? ⟨w.heap.size + 2, 0, none⟩ = some (.int .i64 0) ∧ W.cell? ⟨w.heap.size + 2, 1, none⟩ = some (.slice none 0 0) ∧ W.cell? ⟨ebE, eoE + k * 3, none⟩ = some (.string ws[k].k) ∧ W.cell? ⟨ebE, eoE + k * 3 + 1, none⟩ = some (.int .i64 ws[k].n) ∧ W.cell? ⟨ebE, eoE + k * 3 + 2, none⟩ = some (.bool ws[k].g))) (by kernel_rfl) ?_ (fun hHeld => ?_)
     focus ((try dsimp only); (exact ⟨by rw [Bv_t15.cell]; rfl, by rw [Bv_t15.cell]; rfl, by rw [Bw_t15.cell]; rfl, by rw [Bw_t15.cell]; rfl, by rw [Rt_t15.cell]; rfl, by rw [Rt_t15.cell]; rfl, (x_t15.fixX rfl hlt).1, (x_t15.fixX rfl hlt).2.1, (x_t15.fixX rfl hlt).2.2⟩))
     refine tk 0 ?_
     refine tk 1 ?_
     refine tk 2 ?_
     refine tk 3 ?_
     refine tk 4 ?_
     refine tk 5 ?_
     refine tk 6 ?_
     refine tk 8 ?_
     refine tk 9 ?_
     (refine rd1 7 (fun K hK => ?_); go_simp; (go_at_call 117; refine (specLast z A c l ws[k].k _ hl v_t15).mono ?_; rintro e w2 ⟨rfl, hb2⟩; rw [HL0.out]; have v_t17 := v_t15.next hb2; clear v_t15; have x_t17 := x_t15.next hb2; clear x_t15; have Bv_t17 := Bv_t15.next hb2; clear Bv_t15; have Bw_t17 := Bw_t15.next hb2; clear Bw_t15; have Rt_t17 := Rt_t15.next hb2; clear Rt_t15; have hw_t17 := below_next hw_t15 hb2; have hs_t17 := hb2.size; have lw0_t18 := below_next lw0_t16 hb2); go_wp2_with fail; refine hK.out _ _ ?_ (fun hHeld => ?_); (focus ((try dsimp only); (exact ⟨by rw [Bv_t17.cell]; rfl, by rw [Bv_t17.cell]; rfl, by rw [Bw_t17.cell]; rfl, by rw [Bw_t17.cell]; rfl, by rw [Rt_t17.cell]; rfl, by rw [Rt_t17.cell]; rfl, (x_t17.fixX rfl hlt).1, (x_t17.fixX rfl hlt).2.1, (x_t17.fixX rfl hlt).2.2⟩))); clear hK K; (try simp only [Act.put, pa, pb, pc]))
     refine tk 10 ?_
     refine wpAnyH_done (by kernel_rfl) ?_ _
     have qBv0 : w2.cell? ⟨w.heap.size, 0, none⟩ = some (.int .i64 z) := by rw [Bv_t17.cell]; rfl
     have qBv1 : w2.cell? ⟨w.heap.size, 1, none⟩ = some (.slice A l.length c) := by rw [Bv_t17.cell]; rfl
     have qBw0 : w2.cell? ⟨w.heap.size + 1, 0, none⟩ = some (.int .i64 a) := by rw [Bw_t17.cell]; rfl
     have qBw1 : w2.cell? ⟨w.heap.size + 1, 1, none⟩ = some (.slice (some ⟨ebE, eoE, none⟩) ws.length d) := by rw [Bw_t17.cell]; rfl
     have qRt0 : w2.cell? ⟨w.heap.size + 2, 0, none⟩ = some (.int .i64 0) := by rw [Rt_t17.cell]; rfl
     have qRt1 : w2.cell? ⟨w.heap.size + 2, 1, none⟩ = some (.slice none 0 0) := by rw [Rt_t17.cell]; rfl
     have qE0 : w2.cell? ⟨ebE, eoE + k * 3, none⟩ = some (.string ws[k].k) := (x_t17.fixX rfl hlt).1
     have qE1 : w2.cell? ⟨ebE, eoE + k * 3 + 1, none⟩ = some (.int .i64 ws[k].n) := (x_t17.fixX rfl hlt).2.1
     have qE2 : w2.cell? ⟨ebE, eoE + k * 3 + 2, none⟩ = some (.bool ws[k].g) := (x_t17.fixX rfl hlt).2.2
     go_wp2
     go_roundw
     case rel => exact ⟨k + 1, by omega, by go_num, HN, lw0_t18⟩
     case measure => simp [intOf]; omega
   ·
    have hkI : decide ((k : Int) < (ws.length : Int)) = false := decide_eq_false (by omega)
    have HA : Hid (lateB l a ws = false) := Lib.hid (by have h := HLT.out; rw [show k = ws.length from by omega, List.take_length] at h; exact h)
    clear HLT
    by_cases h0 : ws.length = 0
    ·
     have hz0 : ((ws.length : Int) == 0) = true := by simp; exact List.eq_nil_of_length_eq_zero h0
     have HE : Hid (endC z l a ws = 0 ∧ endZ z l a ws = z ∧ endL z l a ws = l) := Lib.hid (by unfold endC endZ endL; rw [hk, HA.out, h0]; exact ⟨rfl, rfl, rfl⟩)
     clear h0
     have hgl_t14 := Rt_t12.lt
     have qBv0 : wr.cell? ⟨w.heap.size, 0, none⟩ = some (.int .i64 z) := by rw [Bv_t12.cell]; rfl
     have qBv1 : wr.cell? ⟨w.heap.size, 1, none⟩ = some (.slice A l.length c) := by rw [Bv_t12.cell]; rfl
     have qBw0 : wr.cell? ⟨w.heap.size + 1, 0, none⟩ = some (.int .i64 a) := by rw [Bw_t12.cell]; rfl
     have qBw1 : wr.cell? ⟨w.heap.size + 1, 1, none⟩ = some (.slice B ws.length d) := by rw [Bw_t12.cell]; rfl
     have qRt0 : wr.cell? ⟨w.heap.size + 2, 0, none⟩ = some (.int .i64 0) := by rw [Rt_t12.cell]; rfl
     have qRt1 : wr.cell? ⟨w.heap.size + 2, 1, none⟩ = some (.slice none 0 0) := by rw [Rt_t12.cell]; rfl
     go_wp2_with fail
     clear qBv0 qBv1 qBw0 qBw1 qRt0 qRt1
     refine (l2Copy_c z A c l _ (by omega) v_t12).mono ?_
     rintro e w2 ⟨Vy, rfl, y_n, hb2⟩
     have HNy : Hid (∀ k, Vy.ownBlock = some k → k ≠ w.heap.size + 2) := Lib.hid (fun k hk => by have := (y_n.block_lt hk).1; omega)
     obtain ⟨ady, cy, rfl, ry1_y, ry2_y, ry3_y⟩ := y_n.read
     clear ry1_y ry2_y ry3_y
     have v_t15 := v_t12.next hb2
     clear v_t12
     have x_t15 := x_t12.next hb2
     clear x_t12
     have Bv_t15 := Bv_t12.next hb2
     clear Bv_t12
     have Bw_t15 := Bw_t12.next hb2
     clear Bw_t12
     have Rt_t15 := Rt_t12.next hb2
     clear Rt_t12
     have hw_t15 := below_next hw_t12 hb2
     have hs_t15 := hb2.size
     have lw0_t16 := below_next lq0 hb2
     have qBv0 : w2.cell? ⟨w.heap.size, 0, none⟩ = some (.int .i64 z) := by rw [Bv_t15.cell]; rfl
     have qBv1 : w2.cell? ⟨w.heap.size, 1, none⟩ = some (.slice A l.length c) := by rw [Bv_t15.cell]; rfl
     have qBw0 : w2.cell? ⟨w.heap.size + 1, 0, none⟩ = some (.int .i64 a) := by rw [Bw_t15.cell]; rfl
     have qBw1 : w2.cell? ⟨w.heap.size + 1, 1, none⟩ = some (.slice B ws.length d) := by rw [Bw_t15.cell]; rfl
     have qRt0 : w2.cell? ⟨w.heap.size + 2, 0, none⟩ = some (.int .i64 0) := by rw [Rt_t15.cell]; rfl
     have qRt1 : w2.cell? ⟨w.heap.size + 2, 1, none⟩ = some (.slice none 0 0) := by rw [Rt_t15.cell]; rfl
     have d0 := qRt0
     have d1 := qRt1
     have fz0 := Rt_t15.free 0
     have fz1 := Rt_t15.free 1
     go_wp2
     refine bodyPost_ret (v := .tuple #[.agg #[.int .i64 z, .slice ady l.length cy], .int .i64 0]) (by simp [results, Tryz.results104, go_sem, d0, d1]) rfl ?_
     refine ⟨.slice ady l.length cy, (by first | (rw [HE.out.1, HE.out.2.1]; done) | (rw [HE.out.1, HE.out.2.1]; rfl)), ?_, ?_⟩
     ·
      have hne : ∀ k, (.slice ady l.length cy : Value).ownBlock = some k → k ≠ w.heap.size + 2 := HNy.out
      rw [HE.out.2.2]
      exact ((y_n.setCell (a := ⟨w.heap.size + 2, 0, none⟩) hne _).setCell (a := ⟨w.heap.size + 2, 1, none⟩) hne _).low (by omega)
     ·
      exact (hw_t15.setCell (show w.heap.size ≤ w.heap.size + 2 from by omega) _).setCell (show w.heap.size ≤ w.heap.size + 2 from by omega) _
    ·
     have hz0 : ((ws.length : Int) == 0) = false := by simp; exact fun e => h0 (by rw [e]; rfl)
     obtain ⟨RZ, RL, RB, HRR⟩ : ∃ RZ RL RB, Hid (doZ z l ws = RZ ∧ doL z l ws = RL ∧ doB z l ws = RB) := ⟨_, _, _, Lib.hid ⟨rfl, rfl, rfl⟩⟩
     have HE : Hid (endC z l a ws = (if RB then 0 else 3) ∧ endZ z l a ws = RZ ∧ endL z l a ws = RL) := Lib.hid (by unfold endC endZ endL; rw [hk, HA.out, decide_eq_false h0, ← HRR.out.1, ← HRR.out.2.1, ← HRR.out.2.2]; exact ⟨by rw [if_neg h0]; rfl, rfl, rfl⟩)
     have hfz : RB = false → RZ = z ∧ RL = l := fun e => by
      rcases do_false (HRR.out.2.2.trans e) with ⟨_, e1, e2⟩ | ⟨e0, _, _⟩
      ·
       exact ⟨HRR.out.1.symm.trans e1, HRR.out.2.1.symm.trans e2⟩
      ·
       rw [versB_yes HP.out.vers] at e0; cases e0
     have HFZ := Lib.hid hfz
     clear hfz h0
     have hgl_t14 := Rt_t12.lt
     have qBv0 : wr.cell? ⟨w.heap.size, 0, none⟩ = some (.int .i64 z) := by rw [Bv_t12.cell]; rfl
     have qBv1 : wr.cell? ⟨w.heap.size, 1, none⟩ = some (.slice A l.length c) := by rw [Bv_t12.cell]; rfl
     have qBw0 : wr.cell? ⟨w.heap.size + 1, 0, none⟩ = some (.int .i64 a) := by rw [Bw_t12.cell]; rfl
     have qBw1 : wr.cell? ⟨w.heap.size + 1, 1, none⟩ = some (.slice B ws.length d) := by rw [Bw_t12.cell]; rfl
     have qRt0 : wr.cell? ⟨w.heap.size + 2, 0, none⟩ = some (.int .i64 0) := by rw [Rt_t12.cell]; rfl
     have qRt1 : wr.cell? ⟨w.heap.size + 2, 1, none⟩ = some (.slice none 0 0) := by rw [Rt_t12.cell]; rfl
     go_wp2_with fail
     clear qBv0 qBv1 qBw0 qBw1 qRt0 qRt1
     refine (l2Do_c z A c l B d ws _ HP.out.vers HP.out.wr hf hfx hd v_t12 x_t12).mono ?_
     rw [HRR.out.1, HRR.out.2.1, HRR.out.2.2]
     rintro e w2 ⟨Vx, rfl, x_n, hb2⟩
     have HNx : Hid (∀ k, Vx.ownBlock = some k → k ≠ w.heap.size + 2) := Lib.hid (fun k hk => by have := (x_n.block_lt hk).1; omega)
     obtain ⟨adx, cx, rfl, ry1_x, ry2_x, ry3_x⟩ := x_n.read
     clear ry1_x ry2_x ry3_x
     have v_t15 := v_t12.next hb2
     clear v_t12
     have x_t15 := x_t12.next hb2
     clear x_t12
     have Bv_t15 := Bv_t12.next hb2
     clear Bv_t12
     have Bw_t15 := Bw_t12.next hb2
     clear Bw_t12
     have Rt_t15 := Rt_t12.next hb2
     clear Rt_t12
     have hw_t15 := below_next hw_t12 hb2
     have hs_t15 := hb2.size
     have lw0_t16 := below_next lq0 hb2
     have hb_t17 := below_alloc (Below.refl _ w2) (.cells #[.int .i64 RZ, .slice adx RL.length cx] 32)
     have Bq_t17 := blkA w2 #[.int .i64 RZ, .slice adx RL.length cx] 32
     have hz_t17 : (w2.alloc (.cells #[.int .i64 RZ, .slice adx RL.length cx] 32)).heap.size = w2.heap.size + 1 := World.size_alloc _ _
     have v_t18 := v_t15.next hb_t17
     clear v_t15
     have x_t18 := x_t15.next hb_t17
     clear x_t15
     have dx_t18 := x_n.next hb_t17
     clear x_n
     have Bv_t18 := Bv_t15.next hb_t17
     clear Bv_t15
     have Bw_t18 := Bw_t15.next hb_t17
     clear Bw_t15
     have Rt_t18 := Rt_t15.next hb_t17
     clear Rt_t15
     have hw_t18 := below_next hw_t15 hb_t17
     have hs_t18 := hb_t17.size
     have lw0_t19 := below_next lw0_t16 hb_t17
     cases hb : RB
     ·
      subst hb
      have HE : Hid (endC z l a ws = 3 ∧ endZ z l a ws = z ∧ endL z l a ws = l) := Lib.hid ⟨HE.out.1, HE.out.2.1.trans (HFZ.out rfl).1, HE.out.2.2.trans (HFZ.out rfl).2⟩
      clear HFZ
      have hgl_t20 := Rt_t18.lt
      have qBv0 : (w2.alloc (.cells #[.int .i64 RZ, .slice adx RL.length cx] 32)).cell? ⟨w.heap.size, 0, none⟩ = some (.int .i64 z) := by rw [Bv_t18.cell]; rfl
      have qBv1 : (w2.alloc (.cells #[.int .i64 RZ, .slice adx RL.length cx] 32)).cell? ⟨w.heap.size, 1, none⟩ = some (.slice A l.length c) := by rw [Bv_t18.cell]; rfl
      have qBw0 : (w2.alloc (.cells #[.int .i64 RZ, .slice adx RL.length cx] 32)).cell? ⟨w.heap.size + 1, 0, none⟩ = some (.int .i64 a) := by rw [Bw_t18.cell]; rfl
      have qBw1 : (w2.alloc (.cells #[.int .i64 RZ, .slice adx RL.length cx] 32)).cell? ⟨w.heap.size + 1, 1, none⟩ = some (.slice B ws.length d) := by rw [Bw_t18.cell]; rfl
      have qRt0 : (w2.alloc (.cells #[.int .i64 RZ, .slice adx RL.length cx] 32)).cell? ⟨w.heap.size + 2, 0, none⟩ = some (.int .i64 0) := by rw [Rt_t18.cell]; rfl
      have qRt1 : (w2.alloc (.cells #[.int .i64 RZ, .slice adx RL.length cx] 32)).cell? ⟨w.heap.size + 2, 1, none⟩ = some (.slice none 0 0) := by rw [Rt_t18.cell]; rfl
      have qBq0 : (w2.alloc (.cells #[.int .i64 RZ, .slice adx RL.length cx] 32)).cell? ⟨w2.heap.size, 0, none⟩ = some (.int .i64 RZ) := by rw [Bq_t17.cell]; rfl
      have qBq1 : (w2.alloc (.cells #[.int .i64 RZ, .slice adx RL.length cx] 32)).cell? ⟨w2.heap.size, 1, none⟩ = some (.slice adx RL.length cx) := by rw [Bq_t17.cell]; rfl
      go_wp2_with fail
      clear qBv0 qBv1 qBw0 qBw1 qRt0 qRt1 qBq0 qBq1
      refine (l2Copy_c z A c l _ (by omega) v_t18).mono ?_
      rintro e w3 ⟨Vy, rfl, y_n, hb3⟩
      have HNy : Hid (∀ k, Vy.ownBlock = some k → k ≠ w.heap.size + 2) := Lib.hid (fun k hk => by have := (y_n.block_lt hk).1; omega)
      obtain ⟨ady, cy, rfl, ry1_y, ry2_y, ry3_y⟩ := y_n.read
      clear ry1_y ry2_y ry3_y
      have v_t21 := v_t18.next hb3
      clear v_t18
      have x_t21 := x_t18.next hb3
      clear x_t18
      have dx_t21 := dx_t18.next hb3
      clear dx_t18
      have Bv_t21 := Bv_t18.next hb3
      clear Bv_t18
      have Bw_t21 := Bw_t18.next hb3
      clear Bw_t18
      have Rt_t21 := Rt_t18.next hb3
      clear Rt_t18
      have Bq_t21 := Bq_t17.next hb3
      clear Bq_t17
      have hw_t21 := below_next hw_t18 hb3
      have hs_t21 := hb3.size
      have lw0_t22 := below_next lw0_t19 hb3
      have qBv0 : w3.cell? ⟨w.heap.size, 0, none⟩ = some (.int .i64 z) := by rw [Bv_t21.cell]; rfl
      have qBv1 : w3.cell? ⟨w.heap.size, 1, none⟩ = some (.slice A l.length c) := by rw [Bv_t21.cell]; rfl
      have qBw0 : w3.cell? ⟨w.heap.size + 1, 0, none⟩ = some (.int .i64 a) := by rw [Bw_t21.cell]; rfl
      have qBw1 : w3.cell? ⟨w.heap.size + 1, 1, none⟩ = some (.slice B ws.length d) := by rw [Bw_t21.cell]; rfl
      have qRt0 : w3.cell? ⟨w.heap.size + 2, 0, none⟩ = some (.int .i64 0) := by rw [Rt_t21.cell]; rfl
      have qRt1 : w3.cell? ⟨w.heap.size + 2, 1, none⟩ = some (.slice none 0 0) := by rw [Rt_t21.cell]; rfl
      have qBq0 : w3.cell? ⟨w2.heap.size, 0, none⟩ = some (.int .i64 RZ) := by rw [Bq_t21.cell]; rfl
      have qBq1 : w3.cell? ⟨w2.heap.size, 1, none⟩ = some (.slice adx RL.length cx) := by rw [Bq_t21.cell]; rfl
      have d0 := qRt0
      have d1 := qRt1
      have fz0 := Rt_t21.free 0
      have fz1 := Rt_t21.free 1
      go_wp2
      refine bodyPost_ret (v := .tuple #[.agg #[.int .i64 z, .slice ady l.length cy], .int .i64 3]) (by simp [results, Tryz.results104, go_sem, d0, d1]) rfl ?_
      refine ⟨.slice ady l.length cy, (by first | (rw [HE.out.1, HE.out.2.1]; done) | (rw [HE.out.1, HE.out.2.1]; rfl)), ?_, ?_⟩
      ·
       have hne : ∀ k, (.slice ady l.length cy : Value).ownBlock = some k → k ≠ w.heap.size + 2 := HNy.out
       rw [HE.out.2.2]
       exact ((y_n.setCell (a := ⟨w.heap.size + 2, 0, none⟩) hne _).setCell (a := ⟨w.heap.size + 2, 1, none⟩) hne _).low (by omega)
      ·
       exact (hw_t21.setCell (show w.heap.size ≤ w.heap.size + 2 from by omega) _).setCell (show w.heap.size ≤ w.heap.size + 2 from by omega) _
     ·
      subst hb
      have qBv0 : (w2.alloc (.cells #[.int .i64 RZ, .slice adx RL.length cx] 32)).cell? ⟨w.heap.size, 0, none⟩ = some (.int .i64 z) := by rw [Bv_t18.cell]; rfl
      have qBv1 : (w2.alloc (.cells #[.int .i64 RZ, .slice adx RL.length cx] 32)).cell? ⟨w.heap.size, 1, none⟩ = some (.slice A l.length c) := by rw [Bv_t18.cell]; rfl
      have qBw0 : (w2.alloc (.cells #[.int .i64 RZ, .slice adx RL.length cx] 32)).cell? ⟨w.heap.size + 1, 0, none⟩ = some (.int .i64 a) := by rw [Bw_t18.cell]; rfl
      have qBw1 : (w2.alloc (.cells #[.int .i64 RZ, .slice adx RL.length cx] 32)).cell? ⟨w.heap.size + 1, 1, none⟩ = some (.slice B ws.length d) := by rw [Bw_t18.cell]; rfl
      have qRt0 : (w2.alloc (.cells #[.int .i64 RZ, .slice adx RL.length cx] 32)).cell? ⟨w.heap.size + 2, 0, none⟩ = some (.int .i64 0) := by rw [Rt_t18.cell]; rfl
      have qRt1 : (w2.alloc (.cells #[.int .i64 RZ, .slice adx RL.length cx] 32)).cell? ⟨w.heap.size + 2, 1, none⟩ = some (.slice none 0 0) := by rw [Rt_t18.cell]; rfl
      have qBq0 : (w2.alloc (.cells #[.int .i64 RZ, .slice adx RL.length cx] 32)).cell? ⟨w2.heap.size, 0, none⟩ = some (.int .i64 RZ) := by rw [Bq_t17.cell]; rfl
      have qBq1 : (w2.alloc (.cells #[.int .i64 RZ, .slice adx RL.length cx] 32)).cell? ⟨w2.heap.size, 1, none⟩ = some (.slice adx RL.length cx) := by rw [Bq_t17.cell]; rfl
      have d0 := qRt0
      have d1 := qRt1
      have fz0 := Rt_t18.free 0
      have fz1 := Rt_t18.free 1
      go_wp2
      refine bodyPost_ret (v := .tuple #[.agg #[.int .i64 RZ, .slice adx RL.length cx], .int .i64 0]) (by simp [results, Tryz.results104, go_sem, d0, d1]) rfl ?_
      refine ⟨.slice adx RL.length cx, (by first | (rw [HE.out.1, HE.out.2.1]; done) | (rw [HE.out.1, HE.out.2.1]; rfl)), ?_, ?_⟩
      ·
       have hne : ∀ k, (.slice adx RL.length cx : Value).ownBlock = some k → k ≠ w.heap.size + 2 := HNx.out
       rw [HE.out.2.2]
       exact ((dx_t18.setCell (a := ⟨w.heap.size + 2, 0, none⟩) hne _).setCell (a := ⟨w.heap.size + 2, 1, none⟩) hne _).low (by omega)
      ·
       exact (hw_t18.setCell (show w.heap.size ≤ w.heap.size + 2 from by omega) _).setCell (show w.heap.size ≤ w.heap.size + 2 from by omega) _

end Go.Proofs.YtnijgbinjbikbaaGreat
