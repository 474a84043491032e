/- The model's chapter 3: WorkRows, WorkNew, WorkEnd. -/
import Derived.Test.YtbeklnhngjmpiaaW3a
namespace Go.Proofs.Ytbeklnhngjmpiaa
open Go.RowKit
set_option linter.unusedVariables false
set_option maxRecDepth 100000

theorem late_succ {l : List V} {a : Int} {ws : List X} {k : Nat} (hk : k < ws.length) : lateB l a (ws.take (k + 1)) = (lateB l a (ws.take k) || decide (a < lastL l ws[k].k)) := by
  unfold lateB; rw [List.take_succ_eq_append_getElem hk, List.any_append]; simp
theorem late_in {l : List V} {a : Int} {ws : List X} {k : Nat} (hk : k < ws.length) (h : a < lastL l ws[k].k) : lateB l a ws = true := by
  unfold lateB; rw [List.any_eq_true]; exact ⟨ws[k], List.getElem_mem hk, decide_eq_true h⟩

noncomputable def newA (z : Int) (l : List V) : Int := if versB z l then z else 0
set_option maxHeartbeats 2000000 in
theorem specWorkNew (z : Int) (A : Option Addr) (c : Nat) (l : List V) (w : World) (hf : FitVs l) (hc : l.length ≤ c) (hm : c ≤ maxLen) (hl : l.length ≤ 1048576) (hr : RdG w w.heap.size A l) :
    Calls Try.prog 8 #[.agg #[.int .i64 z, .slice A l.length c]] w (RetX w (newA z l) []) := by
  go_enter Try.func8, Try.ntmps8
  have hb_t1 := below_alloc (Below.refl _ w) (.cells #[.int .i64 z, .slice A l.length c] 32)
  have Bv_t1 := blkA w #[.int .i64 z, .slice A l.length c] 32
  have hz_t1 : (w.alloc (.cells #[.int .i64 z, .slice A l.length c] 32)).heap.size = w.heap.size + 1 := World.size_alloc _ _
  have hw_t2 := hb_t1
  have hs_t2 := hb_t1.size
  have hb_t4 := below_alloc (Below.refl _ (w.alloc (.cells #[.int .i64 z, .slice A l.length c] 32))) (.cells #[.int .i64 0, .slice none 0 0] 28)
  have Rt_t4 := blkA (w.alloc (.cells #[.int .i64 z, .slice A l.length c] 32)) #[.int .i64 0, .slice none 0 0] 28
  simp only [World.size_alloc] at Rt_t4
  have hz_t4 : ((w.alloc (.cells #[.int .i64 z, .slice A l.length c] 32)).alloc (.cells #[.int .i64 0, .slice none 0 0] 28)).heap.size = (w.alloc (.cells #[.int .i64 z, .slice A l.length c] 32)).heap.size + 1 := World.size_alloc _ _
  have Bv_t5 := Bv_t1.next hb_t4
  clear Bv_t1
  have hw_t5 := below_next hw_t2 hb_t4
  have hs_t5 := hb_t4.size
  have v_0 := hr.next hw_t5
  cases hv : versB z l
  · have HE : Hid (newA z l = 0) := Lib.hid (by unfold newA; rw [hv]; rfl)
    have qBv0 : ((w.alloc (.cells #[.int .i64 z, .slice A l.length c] 32)).alloc (.cells #[.int .i64 0, .slice none 0 0] 28)).cell? ⟨w.heap.size, 0, none⟩ = some (.int .i64 z) := by rw [Bv_t5.cell]; rfl
    have qBv1 : ((w.alloc (.cells #[.int .i64 z, .slice A l.length c] 32)).alloc (.cells #[.int .i64 0, .slice none 0 0] 28)).cell? ⟨w.heap.size, 1, none⟩ = some (.slice A l.length c) := by rw [Bv_t5.cell]; rfl
    have qRt0 : ((w.alloc (.cells #[.int .i64 z, .slice A l.length c] 32)).alloc (.cells #[.int .i64 0, .slice none 0 0] 28)).cell? ⟨w.heap.size + 1, 0, none⟩ = some (.int .i64 0) := by rw [Rt_t4.cell]; rfl
    have qRt1 : ((w.alloc (.cells #[.int .i64 z, .slice A l.length c] 32)).alloc (.cells #[.int .i64 0, .slice none 0 0] 28)).cell? ⟨w.heap.size + 1, 1, none⟩ = some (.slice none 0 0) := by rw [Rt_t4.cell]; rfl
    go_wp2_with fail
    clear qBv0 qBv1 qRt0 qRt1
    refine (specVersOk z A c l _ hf hc hm v_0).mono ?_
    rintro e w1 ⟨rfl, hb1⟩
    rw [hv]
    have v_t7 := v_0.next hb1
    clear v_0
    have Bv_t7 := Bv_t5.next hb1
    clear Bv_t5
    have Rt_t7 := Rt_t4.next hb1
    clear Rt_t4
    have hw_t7 := below_next hw_t5 hb1
    have hs_t7 := hb1.size
    have qBv0 : w1.cell? ⟨w.heap.size, 0, none⟩ = some (.int .i64 z) := by rw [Bv_t7.cell]; rfl
    have qBv1 : w1.cell? ⟨w.heap.size, 1, none⟩ = some (.slice A l.length c) := by rw [Bv_t7.cell]; rfl
    have qRt0 : w1.cell? ⟨w.heap.size + 1, 0, none⟩ = some (.int .i64 0) := by rw [Rt_t7.cell]; rfl
    have qRt1 : w1.cell? ⟨w.heap.size + 1, 1, none⟩ = some (.slice none 0 0) := by rw [Rt_t7.cell]; rfl
    have d0 := qRt0
    have d1 := qRt1
    have fz0 := Rt_t7.free 0
    have fz1 := Rt_t7.free 1
    go_wp2
    refine bodyPost_ret (v := .agg #[.int .i64 0, .slice none 0 0]) (by simp [results, Try.results8, go_sem, d0, d1]) rfl ?_
    refine ⟨.slice none 0 0, (by first | (rw [HE.out]; done) | (rw [HE.out]; rfl)), ?_, ?_⟩
    · exact OwnG.nil _ _
    · exact (hw_t7.setCell (show w.heap.size ≤ w.heap.size + 1 from by omega) _).setCell (show w.heap.size ≤ w.heap.size + 1 from by omega) _
  · have HE : Hid (newA z l = z) := Lib.hid (by unfold newA; rw [hv]; rfl)
    have qBv0 : ((w.alloc (.cells #[.int .i64 z, .slice A l.length c] 32)).alloc (.cells #[.int .i64 0, .slice none 0 0] 28)).cell? ⟨w.heap.size, 0, none⟩ = some (.int .i64 z) := by rw [Bv_t5.cell]; rfl
    have qBv1 : ((w.alloc (.cells #[.int .i64 z, .slice A l.length c] 32)).alloc (.cells #[.int .i64 0, .slice none 0 0] 28)).cell? ⟨w.heap.size, 1, none⟩ = some (.slice A l.length c) := by rw [Bv_t5.cell]; rfl
    have qRt0 : ((w.alloc (.cells #[.int .i64 z, .slice A l.length c] 32)).alloc (.cells #[.int .i64 0, .slice none 0 0] 28)).cell? ⟨w.heap.size + 1, 0, none⟩ = some (.int .i64 0) := by rw [Rt_t4.cell]; rfl
    have qRt1 : ((w.alloc (.cells #[.int .i64 z, .slice A l.length c] 32)).alloc (.cells #[.int .i64 0, .slice none 0 0] 28)).cell? ⟨w.heap.size + 1, 1, none⟩ = some (.slice none 0 0) := by rw [Rt_t4.cell]; rfl
    go_wp2_with fail
    clear qBv0 qBv1 qRt0 qRt1
    refine (specVersOk z A c l _ hf hc hm v_0).mono ?_
    rintro e w1 ⟨rfl, hb1⟩
    rw [hv]
    have v_t7 := v_0.next hb1
    clear v_0
    have Bv_t7 := Bv_t5.next hb1
    clear Bv_t5
    have Rt_t7 := Rt_t4.next hb1
    clear Rt_t4
    have hw_t7 := below_next hw_t5 hb1
    have hs_t7 := hb1.size
    have hgl_t9 := Rt_t7.lt
    have rBv0 : w1.cell? ⟨w.heap.size, 0, none⟩ = some (.int .i64 z) := by rw [Bv_t7.cell]; rfl
    have rBv1 : w1.cell? ⟨w.heap.size, 1, none⟩ = some (.slice A l.length c) := by rw [Bv_t7.cell]; rfl
    have rRt0 : w1.cell? ⟨w.heap.size + 1, 0, none⟩ = some (.int .i64 0) := by rw [Rt_t7.cell]; rfl
    have rRt1 : w1.cell? ⟨w.heap.size + 1, 1, none⟩ = some (.slice none 0 0) := by rw [Rt_t7.cell]; rfl
    have gz0 := Rt_t7.free 0
    have gz1 := Rt_t7.free 1
    have hsw := hw_t7.size
    have hsz : ((w1.setCell ⟨w.heap.size + 1, 0, none⟩ (.int .i64 z)).setCell ⟨w.heap.size + 1, 1, none⟩ (.slice (some ⟨w1.heap.size, 0, none⟩) 0 0)).heap.size = w1.heap.size := by simp [World.setCell]
    have HSZ := Lib.hid hsz
    clear hsz
    have hRf := ((Rt_t7.set_ 0 (.int .i64 z)).set_ 1 (.slice (some ⟨w1.heap.size, 0, none⟩) 0 0)).alloc (.cells #[] 51)
    have r0 : (((w1.setCell ⟨w.heap.size + 1, 0, none⟩ (.int .i64 z)).setCell ⟨w.heap.size + 1, 1, none⟩ (.slice (some ⟨w1.heap.size, 0, none⟩) 0 0)).alloc (.cells #[] 51)).cell? ⟨w.heap.size + 1, 0, none⟩ = some (.int .i64 z) := by rw [hRf.cell]; rfl
    have r1 : (((w1.setCell ⟨w.heap.size + 1, 0, none⟩ (.int .i64 z)).setCell ⟨w.heap.size + 1, 1, none⟩ (.slice (some ⟨w1.heap.size, 0, none⟩) 0 0)).alloc (.cells #[] 51)).cell? ⟨w.heap.size + 1, 1, none⟩ = some (.slice (some ⟨w1.heap.size, 0, none⟩) 0 0) := by rw [hRf.cell]; rfl
    have R0 := Lib.hid r0
    have R1 := Lib.hid r1
    clear r0 r1
    go_wp2
    refine bodyPost_ret (v := .agg #[.int .i64 z, .slice (some ⟨w1.heap.size, 0, none⟩) 0 0]) (by simp [results, Try.results8, go_sem, R0.out, R1.out]) rfl ?_
    refine ⟨.slice (some ⟨w1.heap.size, 0, none⟩) 0 0, by rw [HE.out], ?_, ?_⟩
    · have hq := OwnG.fresh (α := X) ((w1.setCell ⟨w.heap.size + 1, 0, none⟩ (.int .i64 z)).setCell ⟨w.heap.size + 1, 1, none⟩ (.slice (some ⟨w1.heap.size, 0, none⟩) 0 0)) w.heap.size (by rw [HSZ.out]; exact hsw)
      rw [HSZ.out] at hq
      exact hq
    · exact below_alloc ((hw_t7.setCell (show w.heap.size ≤ w.heap.size + 1 from by omega) _).setCell (show w.heap.size ≤ w.heap.size + 1 from by omega) _) _

end Go.Proofs.Ytbeklnhngjmpiaa
