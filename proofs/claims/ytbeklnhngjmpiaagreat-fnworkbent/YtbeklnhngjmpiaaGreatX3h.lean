/- The program's chapter 3: WorkEnd. -/
import Derived.Test.YtbeklnhngjmpiaaGreatX3f
import Derived.Test.YtbeklnhngjmpiaaGreatW3e
namespace Go.Proofs.YtbeklnhngjmpiaaGreat
open Go.RowKit
set_option linter.unusedVariables false
set_option maxRecDepth 100000

set_option maxHeartbeats 4000000 in
theorem implWorkEnd (z : Int) (A : Option Addr) (c : Nat) (l : List V) (a : Int) (B : Option Addr) (d : Nat) (ws : List X) (w : World) (hf : FitVs l) (hc : l.length ≤ c) (hm : c ≤ maxLen) (hl : l.length ≤ 1048576) (hfx : FitXs ws) (hd : ws.length ≤ d) (hmd : d ≤ maxLen) (hlx : ws.length ≤ 1048576) (hr : RdG w w.heap.size A l) (hrx : RdG w w.heap.size B ws) :
  Calls Tryz.prog 35 #[.agg #[.int .i64 z, .slice A l.length c], .agg #[.int .i64 a, .slice B ws.length d]] w (RetVC w (endZ z l a ws) (endL z l a ws) (endC z l a ws)) := by
 go_enter Tryz.func35, Tryz.ntmps35
 have hb_t1 := below_alloc (Below.refl _ w) (.cells #[.int .i64 z, .slice A l.length c] 34)
 have Bv_t1 := blkA w #[.int .i64 z, .slice A l.length c] 34
 have hz_t1 : (w.alloc (.cells #[.int .i64 z, .slice A l.length c] 34)).heap.size = w.heap.size + 1 := World.size_alloc _ _
 have hw_t2 := hb_t1
 have hs_t2 := hb_t1.size
 have hb_t4 := below_alloc (Below.refl _ (w.alloc (.cells #[.int .i64 z, .slice A l.length c] 34))) (.cells #[.int .i64 a, .slice B ws.length d] 38)
 have Bw_t4 := blkA (w.alloc (.cells #[.int .i64 z, .slice A l.length c] 34)) #[.int .i64 a, .slice B ws.length d] 38
 simp only [World.size_alloc] at Bw_t4
 have hz_t4 : ((w.alloc (.cells #[.int .i64 z, .slice A l.length c] 34)).alloc (.cells #[.int .i64 a, .slice B ws.length d] 38)).heap.size = (w.alloc (.cells #[.int .i64 z, .slice A l.length c] 34)).heap.size + 1 := World.size_alloc _ _
 have Bv_t5 := Bv_t1.next hb_t4
 clear Bv_t1
 have hw_t5 := below_next hw_t2 hb_t4
 have hs_t5 := hb_t4.size
 have hb_t7 := below_alloc (Below.refl _ ((w.alloc (.cells #[.int .i64 z, .slice A l.length c] 34)).alloc (.cells #[.int .i64 a, .slice B ws.length d] 38))) (.cells #[.int .i64 0, .slice none 0 0] 34)
 have Rt_t7 := blkA ((w.alloc (.cells #[.int .i64 z, .slice A l.length c] 34)).alloc (.cells #[.int .i64 a, .slice B ws.length d] 38)) #[.int .i64 0, .slice none 0 0] 34
 simp only [World.size_alloc] at Rt_t7
 have hz_t7 : (((w.alloc (.cells #[.int .i64 z, .slice A l.length c] 34)).alloc (.cells #[.int .i64 a, .slice B ws.length d] 38)).alloc (.cells #[.int .i64 0, .slice none 0 0] 34)).heap.size = ((w.alloc (.cells #[.int .i64 z, .slice A l.length c] 34)).alloc (.cells #[.int .i64 a, .slice B ws.length d] 38)).heap.size + 1 := World.size_alloc _ _
 have Bv_t8 := Bv_t5.next hb_t7
 clear Bv_t5
 have Bw_t8 := Bw_t4.next hb_t7
 clear Bw_t4
 have hw_t8 := below_next hw_t5 hb_t7
 have hs_t8 := hb_t7.size
 have v_0 := hr.next hw_t8
 have x_0 := hrx.next hw_t8
 cases hk : workB z l a ws
 ·
  have HE : Hid (endC z l a ws = 1 ∧ endZ z l a ws = 0 ∧ endL z l a ws = []) := Lib.hid (by unfold endC endZ endL; rw [hk]; exact ⟨rfl, rfl, rfl⟩)
  have qBv0 : (((w.alloc (.cells #[.int .i64 z, .slice A l.length c] 34)).alloc (.cells #[.int .i64 a, .slice B ws.length d] 38)).alloc (.cells #[.int .i64 0, .slice none 0 0] 34)).cell? ⟨w.heap.size, 0, none⟩ = some (.int .i64 z) := by rw [Bv_t8.cell]; rfl
  have qBv1 : (((w.alloc (.cells #[.int .i64 z, .slice A l.length c] 34)).alloc (.cells #[.int .i64 a, .slice B ws.length d] 38)).alloc (.cells #[.int .i64 0, .slice none 0 0] 34)).cell? ⟨w.heap.size, 1, none⟩ = some (.slice A l.length c) := by rw [Bv_t8.cell]; rfl
  have qBw0 : (((w.alloc (.cells #[.int .i64 z, .slice A l.length c] 34)).alloc (.cells #[.int .i64 a, .slice B ws.length d] 38)).alloc (.cells #[.int .i64 0, .slice none 0 0] 34)).cell? ⟨w.heap.size + 1, 0, none⟩ = some (.int .i64 a) := by rw [Bw_t8.cell]; rfl
  have qBw1 : (((w.alloc (.cells #[.int .i64 z, .slice A l.length c] 34)).alloc (.cells #[.int .i64 a, .slice B ws.length d] 38)).alloc (.cells #[.int .i64 0, .slice none 0 0] 34)).cell? ⟨w.heap.size + 1, 1, none⟩ = some (.slice B ws.length d) := by rw [Bw_t8.cell]; rfl
  have qRt0 : (((w.alloc (.cells #[.int .i64 z, .slice A l.length c] 34)).alloc (.cells #[.int .i64 a, .slice B ws.length d] 38)).alloc (.cells #[.int .i64 0, .slice none 0 0] 34)).cell? ⟨w.heap.size + 2, 0, none⟩ = some (.int .i64 0) := by rw [Rt_t7.cell]; rfl
  have qRt1 : (((w.alloc (.cells #[.int .i64 z, .slice A l.length c] 34)).alloc (.cells #[.int .i64 a, .slice B ws.length d] 38)).alloc (.cells #[.int .i64 0, .slice none 0 0] 34)).cell? ⟨w.heap.size + 2, 1, none⟩ = some (.slice none 0 0) := by rw [Rt_t7.cell]; rfl
  go_wp2_with fail
  clear qBv0 qBv1 qBw0 qBw1 qRt0 qRt1
  refine (implWorkOk z A c l a B d ws _ hf hc hm hl hfx hd hmd hlx v_0 x_0).mono ?_
  rintro e w1 ⟨rfl, hb1⟩
  rw [hk]
  have v_t10 := v_0.next hb1
  clear v_0
  have x_t10 := x_0.next hb1
  clear x_0
  have Bv_t10 := Bv_t8.next hb1
  clear Bv_t8
  have Bw_t10 := Bw_t8.next hb1
  clear Bw_t8
  have Rt_t10 := Rt_t7.next hb1
  clear Rt_t7
  have hw_t10 := below_next hw_t8 hb1
  have hs_t10 := hb1.size
  have qBv0 : w1.cell? ⟨w.heap.size, 0, none⟩ = some (.int .i64 z) := by rw [Bv_t10.cell]; rfl
  have qBv1 : w1.cell? ⟨w.heap.size, 1, none⟩ = some (.slice A l.length c) := by rw [Bv_t10.cell]; rfl
  have qBw0 : w1.cell? ⟨w.heap.size + 1, 0, none⟩ = some (.int .i64 a) := by rw [Bw_t10.cell]; rfl
  have qBw1 : w1.cell? ⟨w.heap.size + 1, 1, none⟩ = some (.slice B ws.length d) := by rw [Bw_t10.cell]; rfl
  have qRt0 : w1.cell? ⟨w.heap.size + 2, 0, none⟩ = some (.int .i64 0) := by rw [Rt_t10.cell]; rfl
  have qRt1 : w1.cell? ⟨w.heap.size + 2, 1, none⟩ = some (.slice none 0 0) := by rw [Rt_t10.cell]; rfl
  have d0 := qRt0
  have d1 := qRt1
  have fz0 := Rt_t10.free 0
  have fz1 := Rt_t10.free 1
  go_wp2
  refine bodyPost_ret (v := .tuple #[.agg #[.int .i64 0, .slice none 0 0], .int .i64 1]) (by simp [results, Tryz.results35, go_sem, d0, d1]) rfl ?_
  refine ⟨.slice none 0 0, (by first | (rw [HE.out.1, HE.out.2.1]; done) | (rw [HE.out.1, HE.out.2.1]; rfl)), ?_, ?_⟩
  ·
   rw [HE.out.2.2]; exact OwnG.nil _ _
  ·
   exact (hw_t10.setCell (show w.heap.size ≤ w.heap.size + 2 from by omega) _).setCell (show w.heap.size ≤ w.heap.size + 2 from by omega) _
 ·
  have hP := workB_iff.1 hk
  have hlw := hP.wr.len
  have hll := hP.vers.len
  have HAS := Lib.hid hP.wr.ascW
  have HKL := Lib.hid hP.vers.ord2.keyLe
  have HO := Lib.hid hP.vers.ord2
  have HV : Hid (∀ x ∈ l, verB z x = true) := Lib.hid (fun x hx => by obtain ⟨i, hi, rfl⟩ := List.getElem_of_mem hx; exact hP.vers.each i hi)
  clear hP
  have qBv0 : (((w.alloc (.cells #[.int .i64 z, .slice A l.length c] 34)).alloc (.cells #[.int .i64 a, .slice B ws.length d] 38)).alloc (.cells #[.int .i64 0, .slice none 0 0] 34)).cell? ⟨w.heap.size, 0, none⟩ = some (.int .i64 z) := by rw [Bv_t8.cell]; rfl
  have qBv1 : (((w.alloc (.cells #[.int .i64 z, .slice A l.length c] 34)).alloc (.cells #[.int .i64 a, .slice B ws.length d] 38)).alloc (.cells #[.int .i64 0, .slice none 0 0] 34)).cell? ⟨w.heap.size, 1, none⟩ = some (.slice A l.length c) := by rw [Bv_t8.cell]; rfl
  have qBw0 : (((w.alloc (.cells #[.int .i64 z, .slice A l.length c] 34)).alloc (.cells #[.int .i64 a, .slice B ws.length d] 38)).alloc (.cells #[.int .i64 0, .slice none 0 0] 34)).cell? ⟨w.heap.size + 1, 0, none⟩ = some (.int .i64 a) := by rw [Bw_t8.cell]; rfl
  have qBw1 : (((w.alloc (.cells #[.int .i64 z, .slice A l.length c] 34)).alloc (.cells #[.int .i64 a, .slice B ws.length d] 38)).alloc (.cells #[.int .i64 0, .slice none 0 0] 34)).cell? ⟨w.heap.size + 1, 1, none⟩ = some (.slice B ws.length d) := by rw [Bw_t8.cell]; rfl
  have qRt0 : (((w.alloc (.cells #[.int .i64 z, .slice A l.length c] 34)).alloc (.cells #[.int .i64 a, .slice B ws.length d] 38)).alloc (.cells #[.int .i64 0, .slice none 0 0] 34)).cell? ⟨w.heap.size + 2, 0, none⟩ = some (.int .i64 0) := by rw [Rt_t7.cell]; rfl
  have qRt1 : (((w.alloc (.cells #[.int .i64 z, .slice A l.length c] 34)).alloc (.cells #[.int .i64 a, .slice B ws.length d] 38)).alloc (.cells #[.int .i64 0, .slice none 0 0] 34)).cell? ⟨w.heap.size + 2, 1, none⟩ = some (.slice none 0 0) := by rw [Rt_t7.cell]; rfl
  go_wp2_with fail
  clear qBv0 qBv1 qBw0 qBw1 qRt0 qRt1
  refine (implWorkOk z A c l a B d ws _ hf hc hm hl hfx hd hmd hlx v_0 x_0).mono ?_
  rintro e w1 ⟨rfl, hb1⟩
  rw [hk]
  have v_t10 := v_0.next hb1
  clear v_0
  have x_t10 := x_0.next hb1
  clear x_0
  have Bv_t10 := Bv_t8.next hb1
  clear Bv_t8
  have Bw_t10 := Bw_t8.next hb1
  clear Bw_t8
  have Rt_t10 := Rt_t7.next hb1
  clear Rt_t7
  have hw_t10 := below_next hw_t8 hb1
  have hs_t10 := hb1.size
  have qBv0 : w1.cell? ⟨w.heap.size, 0, none⟩ = some (.int .i64 z) := by rw [Bv_t10.cell]; rfl
  have qBv1 : w1.cell? ⟨w.heap.size, 1, none⟩ = some (.slice A l.length c) := by rw [Bv_t10.cell]; rfl
  have qBw0 : w1.cell? ⟨w.heap.size + 1, 0, none⟩ = some (.int .i64 a) := by rw [Bw_t10.cell]; rfl
  have qBw1 : w1.cell? ⟨w.heap.size + 1, 1, none⟩ = some (.slice B ws.length d) := by rw [Bw_t10.cell]; rfl
  have qRt0 : w1.cell? ⟨w.heap.size + 2, 0, none⟩ = some (.int .i64 0) := by rw [Rt_t10.cell]; rfl
  have qRt1 : w1.cell? ⟨w.heap.size + 2, 1, none⟩ = some (.slice none 0 0) := by rw [Rt_t10.cell]; rfl
  go_wp2_with fail
  clear qBv0 qBv1 qBw0 qBw1 qRt0 qRt1
  have Bv_o := Lib.hid Bv_t10
  have Bw_o := Lib.hid Bw_t10
  have Rt_o := Lib.hid Rt_t10
  have v_o := Lib.hid v_t10
  have x_o := Lib.hid x_t10
  have hw_o := hw_t10
  refine (storageOf_c z A c l _ (by omega) HKL.out v_t10).mono ?_
  rintro e w2 ⟨s, chs, rfl, S_n, hC, hb2⟩
  have hCl := hC.length
  have v_t12 := v_t10.next hb2
  clear v_t10
  have x_t12 := x_t10.next hb2
  clear x_t10
  have Bv_t12 := Bv_t10.next hb2
  clear Bv_t10
  have Bw_t12 := Bw_t10.next hb2
  clear Bw_t10
  have Rt_t12 := Rt_t10.next hb2
  clear Rt_t10
  have hw_t12 := below_next hw_t10 hb2
  have hs_t12 := hb2.size
  have qBv0 : w2.cell? ⟨w.heap.size, 0, none⟩ = some (.int .i64 z) := by rw [Bv_t12.cell]; rfl
  have qBv1 : w2.cell? ⟨w.heap.size, 1, none⟩ = some (.slice A l.length c) := by rw [Bv_t12.cell]; rfl
  have qBw0 : w2.cell? ⟨w.heap.size + 1, 0, none⟩ = some (.int .i64 a) := by rw [Bw_t12.cell]; rfl
  have qBw1 : w2.cell? ⟨w.heap.size + 1, 1, none⟩ = some (.slice B ws.length d) := by rw [Bw_t12.cell]; rfl
  have qRt0 : w2.cell? ⟨w.heap.size + 2, 0, none⟩ = some (.int .i64 0) := by rw [Rt_t12.cell]; rfl
  have qRt1 : w2.cell? ⟨w.heap.size + 2, 1, none⟩ = some (.slice none 0 0) := by rw [Rt_t12.cell]; rfl
  go_wp2
  clear qBv0 qBv1 qBw0 qBw1 qRt0 qRt1
  go_loopw [21] (fun i W => ∃ k : Nat, k ≤ ws.length ∧ i = .int .i64 k ∧ Hid (lateB l a (ws.take k) = false) ∧ (∃ ch2, Sto W w1.heap.size s z ch2 ∧ ConsF ch2 l ∧ ch2.length ≤ l.length + k) ∧ Below w1.heap.size w1 W) (fun i _ => ws.length - (intOf i).toNat)
  case atStart => exact ⟨0, Nat.zero_le _, rfl, Lib.hid rfl, ⟨chs, S_n, hC.toF HO.out, by omega⟩, hb2⟩
  case round =>
   obtain ⟨k, hkk, rfl, HLT, ⟨ch2, S_r, hCF2, hCl2⟩, hbl⟩ := hrel
   clear S_n
   have Bv_t14 := Bv_o.out.next hbl
   have Bw_t14 := Bw_o.out.next hbl
   have Rt_t14 := Rt_o.out.next hbl
   have v_t14 := v_o.out.next hbl
   have x_t14 := x_o.out.next hbl
   have hw_t14 := below_next hw_o hbl
   have hs_t14 := hbl.size
   clear Bv_t12 Bw_t12 Rt_t12 v_t12 x_t12
   by_cases hlt : k < ws.length
   ·
    have hkI := lenI _ _ hlt
    obtain ⟨ebE, eoE, rfl, hqE, _⟩ := x_t14.atX hlt
    clear hqE
    have HS := Lib.hid (late_succ (l := l) (a := a) hlt)
    obtain ⟨L0, HL0⟩ : ∃ L0, Hid (lastL l ws[k].k = L0) := ⟨_, Lib.hid rfl⟩
    by_cases hlate : a < L0
    ·
     have hdl : decide (a < L0) = true := decide_eq_true hlate
     have HA : Hid (lateB l a ws = true) := Lib.hid (late_in hlt (by rw [HL0.out]; exact hlate))
     have HE : Hid (endC z l a ws = 2 ∧ endZ z l a ws = z ∧ endL z l a ws = l) := Lib.hid (by unfold endC endZ endL; rw [hk, HA.out]; exact ⟨rfl, rfl, rfl⟩)
     have rBv0 : wr.cell? ⟨w.heap.size, 0, none⟩ = some (.int .i64 z) := by rw [Bv_t14.cell]; rfl
     have rBv1 : wr.cell? ⟨w.heap.size, 1, none⟩ = some (.slice A l.length c) := by rw [Bv_t14.cell]; rfl
     have rBw0 : wr.cell? ⟨w.heap.size + 1, 0, none⟩ = some (.int .i64 a) := by rw [Bw_t14.cell]; rfl
     have rBw1 : wr.cell? ⟨w.heap.size + 1, 1, none⟩ = some (.slice (some ⟨ebE, eoE, none⟩) ws.length d) := by rw [Bw_t14.cell]; rfl
     have rRt0 : wr.cell? ⟨w.heap.size + 2, 0, none⟩ = some (.int .i64 0) := by rw [Rt_t14.cell]; rfl
     have rRt1 : wr.cell? ⟨w.heap.size + 2, 1, none⟩ = some (.slice none 0 0) := by rw [Rt_t14.cell]; rfl
     have rE0 : wr.cell? ⟨ebE, eoE + k * 3, none⟩ = some (.string ws[k].k) := (x_t14.fixX rfl hlt).1
     have rE1 : wr.cell? ⟨ebE, eoE + k * 3 + 1, none⟩ = some (.int .i64 ws[k].n) := (x_t14.fixX rfl hlt).2.1
     have rE2 : wr.cell? ⟨ebE, eoE + k * 3 + 2, none⟩ = some (.bool ws[k].g) := (x_t14.fixX rfl hlt).2.2
     have hb_t15 := below_alloc (Below.refl _ wr) (.cells #[.string ws[k].k, .int .i64 ws[k].n, .bool ws[k].g] 52)
     have Be_t15 := blkA wr #[.string ws[k].k, .int .i64 ws[k].n, .bool ws[k].g] 52
     have hz_t15 : (wr.alloc (.cells #[.string ws[k].k, .int .i64 ws[k].n, .bool ws[k].g] 52)).heap.size = wr.heap.size + 1 := World.size_alloc _ _
     have v_t16 := v_t14.next hb_t15
     clear v_t14
     have x_t16 := x_t14.next hb_t15
     clear x_t14
     have S_t16 := S_r.next hb_t15
     clear S_r
     have Bv_t16 := Bv_t14.next hb_t15
     clear Bv_t14
     have Bw_t16 := Bw_t14.next hb_t15
     clear Bw_t14
     have Rt_t16 := Rt_t14.next hb_t15
     clear Rt_t14
     have hw_t16 := below_next hw_t14 hb_t15
     have hs_t16 := hb_t15.size
     have lw0_t17 := below_next hbl hb_t15
     have qBv0 : (wr.alloc (.cells #[.string ws[k].k, .int .i64 ws[k].n, .bool ws[k].g] 52)).cell? ⟨w.heap.size, 0, none⟩ = some (.int .i64 z) := by rw [Bv_t16.cell]; rfl
     have qBv1 : (wr.alloc (.cells #[.string ws[k].k, .int .i64 ws[k].n, .bool ws[k].g] 52)).cell? ⟨w.heap.size, 1, none⟩ = some (.slice A l.length c) := by rw [Bv_t16.cell]; rfl
     have qBw0 : (wr.alloc (.cells #[.string ws[k].k, .int .i64 ws[k].n, .bool ws[k].g] 52)).cell? ⟨w.heap.size + 1, 0, none⟩ = some (.int .i64 a) := by rw [Bw_t16.cell]; rfl
     have qBw1 : (wr.alloc (.cells #[.string ws[k].k, .int .i64 ws[k].n, .bool ws[k].g] 52)).cell? ⟨w.heap.size + 1, 1, none⟩ = some (.slice (some ⟨ebE, eoE, none⟩) ws.length d) := by rw [Bw_t16.cell]; rfl
     have qRt0 : (wr.alloc (.cells #[.string ws[k].k, .int .i64 ws[k].n, .bool ws[k].g] 52)).cell? ⟨w.heap.size + 2, 0, none⟩ = some (.int .i64 0) := by rw [Rt_t16.cell]; rfl
     have qRt1 : (wr.alloc (.cells #[.string ws[k].k, .int .i64 ws[k].n, .bool ws[k].g] 52)).cell? ⟨w.heap.size + 2, 1, none⟩ = some (.slice none 0 0) := by rw [Rt_t16.cell]; rfl
     have qBe0 : (wr.alloc (.cells #[.string ws[k].k, .int .i64 ws[k].n, .bool ws[k].g] 52)).cell? ⟨wr.heap.size, 0, none⟩ = some (.string ws[k].k) := by rw [Be_t15.cell]; rfl
     have qBe1 : (wr.alloc (.cells #[.string ws[k].k, .int .i64 ws[k].n, .bool ws[k].g] 52)).cell? ⟨wr.heap.size, 1, none⟩ = some (.int .i64 ws[k].n) := by rw [Be_t15.cell]; rfl
     have qBe2 : (wr.alloc (.cells #[.string ws[k].k, .int .i64 ws[k].n, .bool ws[k].g] 52)).cell? ⟨wr.heap.size, 2, none⟩ = some (.bool ws[k].g) := by rw [Be_t15.cell]; rfl
     have qE0 : (wr.alloc (.cells #[.string ws[k].k, .int .i64 ws[k].n, .bool ws[k].g] 52)).cell? ⟨ebE, eoE + k * 3, none⟩ = some (.string ws[k].k) := (x_t16.fixX rfl hlt).1
     have qE1 : (wr.alloc (.cells #[.string ws[k].k, .int .i64 ws[k].n, .bool ws[k].g] 52)).cell? ⟨ebE, eoE + k * 3 + 1, none⟩ = some (.int .i64 ws[k].n) := (x_t16.fixX rfl hlt).2.1
     have qE2 : (wr.alloc (.cells #[.string ws[k].k, .int .i64 ws[k].n, .bool ws[k].g] 52)).cell? ⟨ebE, eoE + k * 3 + 2, none⟩ = some (.bool ws[k].g) := (x_t16.fixX rfl hlt).2.2
     go_wp2_with fail
     clear qBv0 qBv1 qBw0 qBw1 qRt0 qRt1 qBe0 qBe1 qBe2
     clear qE0 qE1 qE2
     refine (late_c _ s z a ch2 l (some ⟨ebE, eoE, none⟩) ws.length d ws[k].k _ S_t16 hCF2 HV.out (by omega)).mono ?_
     rintro e w3 ⟨rfl, ch3, S_m, hCF3, hCl3, hbl3⟩
     rw [HL0.out]
     have hbA3 := lw0_t17.trans hbl3
     clear S_t16
     have Bv_t18 := Bv_o.out.next hbA3
     have Bw_t18 := Bw_o.out.next hbA3
     have Rt_t18 := Rt_o.out.next hbA3
     have v_t18 := v_o.out.next hbA3
     have x_t18 := x_o.out.next hbA3
     have hw_t18 := below_next hw_o hbA3
     have hs_t18 := hbA3.size
     clear Bv_t16 Bw_t16 Rt_t16 v_t16 x_t16
     have hgl_t19 := Rt_t18.lt
     have qBv0 : w3.cell? ⟨w.heap.size, 0, none⟩ = some (.int .i64 z) := by rw [Bv_t18.cell]; rfl
     have qBv1 : w3.cell? ⟨w.heap.size, 1, none⟩ = some (.slice A l.length c) := by rw [Bv_t18.cell]; rfl
     have qBw0 : w3.cell? ⟨w.heap.size + 1, 0, none⟩ = some (.int .i64 a) := by rw [Bw_t18.cell]; rfl
     have qBw1 : w3.cell? ⟨w.heap.size + 1, 1, none⟩ = some (.slice (some ⟨ebE, eoE, none⟩) ws.length d) := by rw [Bw_t18.cell]; rfl
     have qRt0 : w3.cell? ⟨w.heap.size + 2, 0, none⟩ = some (.int .i64 0) := by rw [Rt_t18.cell]; rfl
     have qRt1 : w3.cell? ⟨w.heap.size + 2, 1, none⟩ = some (.slice none 0 0) := by rw [Rt_t18.cell]; rfl
     have qE0 : w3.cell? ⟨ebE, eoE + k * 3, none⟩ = some (.string ws[k].k) := (x_t18.fixX rfl hlt).1
     have qE1 : w3.cell? ⟨ebE, eoE + k * 3 + 1, none⟩ = some (.int .i64 ws[k].n) := (x_t18.fixX rfl hlt).2.1
     have qE2 : w3.cell? ⟨ebE, eoE + k * 3 + 2, none⟩ = some (.bool ws[k].g) := (x_t18.fixX rfl hlt).2.2
     go_wp2_with fail
     clear qBv0 qBv1 qBw0 qBw1 qRt0 qRt1
     clear qE0 qE1 qE2
     refine (copyVers_c z A c l _ (by omega) v_t18).mono ?_
     rintro e w4 ⟨Vy, rfl, y_n, hb4⟩
     have HNy : Hid (∀ k, Vy.ownBlock = some k → k ≠ w.heap.size + 2) := Lib.hid (fun k hk => by have := (y_n.block_lt hk).1; omega)
     obtain ⟨ady, cy, rfl, ry1_y, ry2_y, ry3_y⟩ := y_n.read
     clear ry1_y ry2_y ry3_y
     have v_t20 := v_t18.next hb4
     clear v_t18
     have x_t20 := x_t18.next hb4
     clear x_t18
     have S_t20 := S_m.next hb4
     clear S_m
     have Bv_t20 := Bv_t18.next hb4
     clear Bv_t18
     have Bw_t20 := Bw_t18.next hb4
     clear Bw_t18
     have Rt_t20 := Rt_t18.next hb4
     clear Rt_t18
     have hw_t20 := below_next hw_t18 hb4
     have hs_t20 := hb4.size
     have lw0_t21 := below_next hbA3 hb4
     have qBv0 : w4.cell? ⟨w.heap.size, 0, none⟩ = some (.int .i64 z) := by rw [Bv_t20.cell]; rfl
     have qBv1 : w4.cell? ⟨w.heap.size, 1, none⟩ = some (.slice A l.length c) := by rw [Bv_t20.cell]; rfl
     have qBw0 : w4.cell? ⟨w.heap.size + 1, 0, none⟩ = some (.int .i64 a) := by rw [Bw_t20.cell]; rfl
     have qBw1 : w4.cell? ⟨w.heap.size + 1, 1, none⟩ = some (.slice (some ⟨ebE, eoE, none⟩) ws.length d) := by rw [Bw_t20.cell]; rfl
     have qRt0 : w4.cell? ⟨w.heap.size + 2, 0, none⟩ = some (.int .i64 0) := by rw [Rt_t20.cell]; rfl
     have qRt1 : w4.cell? ⟨w.heap.size + 2, 1, none⟩ = some (.slice none 0 0) := by rw [Rt_t20.cell]; rfl
     have qE0 : w4.cell? ⟨ebE, eoE + k * 3, none⟩ = some (.string ws[k].k) := (x_t20.fixX rfl hlt).1
     have qE1 : w4.cell? ⟨ebE, eoE + k * 3 + 1, none⟩ = some (.int .i64 ws[k].n) := (x_t20.fixX rfl hlt).2.1
     have qE2 : w4.cell? ⟨ebE, eoE + k * 3 + 2, none⟩ = some (.bool ws[k].g) := (x_t20.fixX rfl hlt).2.2
     have d0 := qRt0
     have d1 := qRt1
     have fz0 := Rt_t20.free 0
     have fz1 := Rt_t20.free 1
     go_wp2
     refine bodyPost_ret (v := .tuple #[.agg #[.int .i64 z, .slice ady l.length cy], .int .i64 2]) (by simp [results, Tryz.results35, go_sem, d0, d1]) rfl ?_
     refine ⟨.slice ady l.length cy, (by first | (rw [HE.out.1, HE.out.2.1]; done) | (rw [HE.out.1, HE.out.2.1]; rfl)), ?_, ?_⟩
     ·
      have hne : ∀ k, (.slice ady l.length cy : Value).ownBlock = some k → k ≠ w.heap.size + 2 := HNy.out
      rw [HE.out.2.2]
      exact ((y_n.setCell (a := ⟨w.heap.size + 2, 0, none⟩) hne _).setCell (a := ⟨w.heap.size + 2, 1, none⟩) hne _).low (by omega)
     ·
      exact (hw_t20.setCell (show w.heap.size ≤ w.heap.size + 2 from by omega) _).setCell (show w.heap.size ≤ w.heap.size + 2 from by omega) _
    ·
     have hdl : decide (a < L0) = false := decide_eq_false hlate
     have HN : Hid (lateB l a (ws.take (k + 1)) = false) := Lib.hid (by rw [HS.out, HLT.out, HL0.out, hdl]; rfl)
     have rBv0 : wr.cell? ⟨w.heap.size, 0, none⟩ = some (.int .i64 z) := by rw [Bv_t14.cell]; rfl
     have rBv1 : wr.cell? ⟨w.heap.size, 1, none⟩ = some (.slice A l.length c) := by rw [Bv_t14.cell]; rfl
     have rBw0 : wr.cell? ⟨w.heap.size + 1, 0, none⟩ = some (.int .i64 a) := by rw [Bw_t14.cell]; rfl
     have rBw1 : wr.cell? ⟨w.heap.size + 1, 1, none⟩ = some (.slice (some ⟨ebE, eoE, none⟩) ws.length d) := by rw [Bw_t14.cell]; rfl
     have rRt0 : wr.cell? ⟨w.heap.size + 2, 0, none⟩ = some (.int .i64 0) := by rw [Rt_t14.cell]; rfl
     have rRt1 : wr.cell? ⟨w.heap.size + 2, 1, none⟩ = some (.slice none 0 0) := by rw [Rt_t14.cell]; rfl
     have rE0 : wr.cell? ⟨ebE, eoE + k * 3, none⟩ = some (.string ws[k].k) := (x_t14.fixX rfl hlt).1
     have rE1 : wr.cell? ⟨ebE, eoE + k * 3 + 1, none⟩ = some (.int .i64 ws[k].n) := (x_t14.fixX rfl hlt).2.1
     have rE2 : wr.cell? ⟨ebE, eoE + k * 3 + 2, none⟩ = some (.bool ws[k].g) := (x_t14.fixX rfl hlt).2.2
     have hb_t15 := below_alloc (Below.refl _ wr) (.cells #[.string ws[k].k, .int .i64 ws[k].n, .bool ws[k].g] 52)
     have Be_t15 := blkA wr #[.string ws[k].k, .int .i64 ws[k].n, .bool ws[k].g] 52
     have hz_t15 : (wr.alloc (.cells #[.string ws[k].k, .int .i64 ws[k].n, .bool ws[k].g] 52)).heap.size = wr.heap.size + 1 := World.size_alloc _ _
     have v_t16 := v_t14.next hb_t15
     clear v_t14
     have x_t16 := x_t14.next hb_t15
     clear x_t14
     have S_t16 := S_r.next hb_t15
     clear S_r
     have Bv_t16 := Bv_t14.next hb_t15
     clear Bv_t14
     have Bw_t16 := Bw_t14.next hb_t15
     clear Bw_t14
     have Rt_t16 := Rt_t14.next hb_t15
     clear Rt_t14
     have hw_t16 := below_next hw_t14 hb_t15
     have hs_t16 := hb_t15.size
     have lw0_t17 := below_next hbl hb_t15
     have qBv0 : (wr.alloc (.cells #[.string ws[k].k, .int .i64 ws[k].n, .bool ws[k].g] 52)).cell? ⟨w.heap.size, 0, none⟩ = some (.int .i64 z) := by rw [Bv_t16.cell]; rfl
     have qBv1 : (wr.alloc (.cells #[.string ws[k].k, .int .i64 ws[k].n, .bool ws[k].g] 52)).cell? ⟨w.heap.size, 1, none⟩ = some (.slice A l.length c) := by rw [Bv_t16.cell]; rfl
     have qBw0 : (wr.alloc (.cells #[.string ws[k].k, .int .i64 ws[k].n, .bool ws[k].g] 52)).cell? ⟨w.heap.size + 1, 0, none⟩ = some (.int .i64 a) := by rw [Bw_t16.cell]; rfl
     have qBw1 : (wr.alloc (.cells #[.string ws[k].k, .int .i64 ws[k].n, .bool ws[k].g] 52)).cell? ⟨w.heap.size + 1, 1, none⟩ = some (.slice (some ⟨ebE, eoE, none⟩) ws.length d) := by rw [Bw_t16.cell]; rfl
     have qRt0 : (wr.alloc (.cells #[.string ws[k].k, .int .i64 ws[k].n, .bool ws[k].g] 52)).cell? ⟨w.heap.size + 2, 0, none⟩ = some (.int .i64 0) := by rw [Rt_t16.cell]; rfl
     have qRt1 : (wr.alloc (.cells #[.string ws[k].k, .int .i64 ws[k].n, .bool ws[k].g] 52)).cell? ⟨w.heap.size + 2, 1, none⟩ = some (.slice none 0 0) := by rw [Rt_t16.cell]; rfl
     have qBe0 : (wr.alloc (.cells #[.string ws[k].k, .int .i64 ws[k].n, .bool ws[k].g] 52)).cell? ⟨wr.heap.size, 0, none⟩ = some (.string ws[k].k) := by rw [Be_t15.cell]; rfl
     have qBe1 : (wr.alloc (.cells #[.string ws[k].k, .int .i64 ws[k].n, .bool ws[k].g] 52)).cell? ⟨wr.heap.size, 1, none⟩ = some (.int .i64 ws[k].n) := by rw [Be_t15.cell]; rfl
     have qBe2 : (wr.alloc (.cells #[.string ws[k].k, .int .i64 ws[k].n, .bool ws[k].g] 52)).cell? ⟨wr.heap.size, 2, none⟩ = some (.bool ws[k].g) := by rw [Be_t15.cell]; rfl
     have qE0 : (wr.alloc (.cells #[.string ws[k].k, .int .i64 ws[k].n, .bool ws[k].g] 52)).cell? ⟨ebE, eoE + k * 3, none⟩ = some (.string ws[k].k) := (x_t16.fixX rfl hlt).1
     have qE1 : (wr.alloc (.cells #[.string ws[k].k, .int .i64 ws[k].n, .bool ws[k].g] 52)).cell? ⟨ebE, eoE + k * 3 + 1, none⟩ = some (.int .i64 ws[k].n) := (x_t16.fixX rfl hlt).2.1
     have qE2 : (wr.alloc (.cells #[.string ws[k].k, .int .i64 ws[k].n, .bool ws[k].g] 52)).cell? ⟨ebE, eoE + k * 3 + 2, none⟩ = some (.bool ws[k].g) := (x_t16.fixX rfl hlt).2.2
     go_wp2_with fail
     clear qBv0 qBv1 qBw0 qBw1 qRt0 qRt1 qBe0 qBe1 qBe2
     clear qE0 qE1 qE2
     refine (late_c _ s z a ch2 l (some ⟨ebE, eoE, none⟩) ws.length d ws[k].k _ S_t16 hCF2 HV.out (by omega)).mono ?_
     rintro e w3 ⟨rfl, ch3, S_m, hCF3, hCl3, hbl3⟩
     rw [HL0.out]
     have hbA3 := lw0_t17.trans hbl3
     clear S_t16
     have Bv_t18 := Bv_o.out.next hbA3
     have Bw_t18 := Bw_o.out.next hbA3
     have Rt_t18 := Rt_o.out.next hbA3
     have v_t18 := v_o.out.next hbA3
     have x_t18 := x_o.out.next hbA3
     have hw_t18 := below_next hw_o hbA3
     have hs_t18 := hbA3.size
     clear Bv_t16 Bw_t16 Rt_t16 v_t16 x_t16
     have qBv0 : w3.cell? ⟨w.heap.size, 0, none⟩ = some (.int .i64 z) := by rw [Bv_t18.cell]; rfl
     have qBv1 : w3.cell? ⟨w.heap.size, 1, none⟩ = some (.slice A l.length c) := by rw [Bv_t18.cell]; rfl
     have qBw0 : w3.cell? ⟨w.heap.size + 1, 0, none⟩ = some (.int .i64 a) := by rw [Bw_t18.cell]; rfl
     have qBw1 : w3.cell? ⟨w.heap.size + 1, 1, none⟩ = some (.slice (some ⟨ebE, eoE, none⟩) ws.length d) := by rw [Bw_t18.cell]; rfl
     have qRt0 : w3.cell? ⟨w.heap.size + 2, 0, none⟩ = some (.int .i64 0) := by rw [Rt_t18.cell]; rfl
     have qRt1 : w3.cell? ⟨w.heap.size + 2, 1, none⟩ = some (.slice none 0 0) := by rw [Rt_t18.cell]; rfl
     have qE0 : w3.cell? ⟨ebE, eoE + k * 3, none⟩ = some (.string ws[k].k) := (x_t18.fixX rfl hlt).1
     have qE1 : w3.cell? ⟨ebE, eoE + k * 3 + 1, none⟩ = some (.int .i64 ws[k].n) := (x_t18.fixX rfl hlt).2.1
     have qE2 : w3.cell? ⟨ebE, eoE + k * 3 + 2, none⟩ = some (.bool ws[k].g) := (x_t18.fixX rfl hlt).2.2
     go_wp2
     go_roundw
     case rel => exact ⟨k + 1, by omega, by go_num, HN, ⟨ch3, S_m, hCF3, by omega⟩, hbA3⟩
     case measure => simp [intOf]; omega
   ·
    have hkI : decide ((k : Int) < (ws.length : Int)) = false := decide_eq_false (by omega)
    have HA : Hid (lateB l a ws = false) := Lib.hid (by have h := HLT.out; rw [show k = ws.length from by omega, List.take_length] at h; exact h)
    clear HLT
    clear S_r
    by_cases h0 : ws.length = 0
    ·
     have hz0 : ((ws.length : Int) == 0) = true := by simp; exact List.eq_nil_of_length_eq_zero h0
     have HE : Hid (endC z l a ws = 0 ∧ endZ z l a ws = z ∧ endL z l a ws = l) := Lib.hid (by unfold endC endZ endL; rw [hk, HA.out, h0]; exact ⟨rfl, rfl, rfl⟩)
     clear h0
     have hgl_t15 := Rt_t14.lt
     have qBv0 : wr.cell? ⟨w.heap.size, 0, none⟩ = some (.int .i64 z) := by rw [Bv_t14.cell]; rfl
     have qBv1 : wr.cell? ⟨w.heap.size, 1, none⟩ = some (.slice A l.length c) := by rw [Bv_t14.cell]; rfl
     have qBw0 : wr.cell? ⟨w.heap.size + 1, 0, none⟩ = some (.int .i64 a) := by rw [Bw_t14.cell]; rfl
     have qBw1 : wr.cell? ⟨w.heap.size + 1, 1, none⟩ = some (.slice B ws.length d) := by rw [Bw_t14.cell]; rfl
     have qRt0 : wr.cell? ⟨w.heap.size + 2, 0, none⟩ = some (.int .i64 0) := by rw [Rt_t14.cell]; rfl
     have qRt1 : wr.cell? ⟨w.heap.size + 2, 1, none⟩ = some (.slice none 0 0) := by rw [Rt_t14.cell]; rfl
     go_wp2_with fail
     clear qBv0 qBv1 qBw0 qBw1 qRt0 qRt1
     refine (copyVers_c z A c l _ (by omega) v_t14).mono ?_
     rintro e w3 ⟨Vy, rfl, y_n, hb3⟩
     have HNy : Hid (∀ k, Vy.ownBlock = some k → k ≠ w.heap.size + 2) := Lib.hid (fun k hk => by have := (y_n.block_lt hk).1; omega)
     obtain ⟨ady, cy, rfl, ry1_y, ry2_y, ry3_y⟩ := y_n.read
     clear ry1_y ry2_y ry3_y
     have v_t16 := v_t14.next hb3
     clear v_t14
     have x_t16 := x_t14.next hb3
     clear x_t14
     have Bv_t16 := Bv_t14.next hb3
     clear Bv_t14
     have Bw_t16 := Bw_t14.next hb3
     clear Bw_t14
     have Rt_t16 := Rt_t14.next hb3
     clear Rt_t14
     have hw_t16 := below_next hw_t14 hb3
     have hs_t16 := hb3.size
     have lw0_t17 := below_next hbl hb3
     have qBv0 : w3.cell? ⟨w.heap.size, 0, none⟩ = some (.int .i64 z) := by rw [Bv_t16.cell]; rfl
     have qBv1 : w3.cell? ⟨w.heap.size, 1, none⟩ = some (.slice A l.length c) := by rw [Bv_t16.cell]; rfl
     have qBw0 : w3.cell? ⟨w.heap.size + 1, 0, none⟩ = some (.int .i64 a) := by rw [Bw_t16.cell]; rfl
     have qBw1 : w3.cell? ⟨w.heap.size + 1, 1, none⟩ = some (.slice B ws.length d) := by rw [Bw_t16.cell]; rfl
     have qRt0 : w3.cell? ⟨w.heap.size + 2, 0, none⟩ = some (.int .i64 0) := by rw [Rt_t16.cell]; rfl
     have qRt1 : w3.cell? ⟨w.heap.size + 2, 1, none⟩ = some (.slice none 0 0) := by rw [Rt_t16.cell]; rfl
     have d0 := qRt0
     have d1 := qRt1
     have fz0 := Rt_t16.free 0
     have fz1 := Rt_t16.free 1
     go_wp2
     refine bodyPost_ret (v := .tuple #[.agg #[.int .i64 z, .slice ady l.length cy], .int .i64 0]) (by simp [results, Tryz.results35, go_sem, d0, d1]) rfl ?_
     refine ⟨.slice ady l.length cy, (by first | (rw [HE.out.1, HE.out.2.1]; done) | (rw [HE.out.1, HE.out.2.1]; rfl)), ?_, ?_⟩
     ·
      have hne : ∀ k, (.slice ady l.length cy : Value).ownBlock = some k → k ≠ w.heap.size + 2 := HNy.out
      rw [HE.out.2.2]
      exact ((y_n.setCell (a := ⟨w.heap.size + 2, 0, none⟩) hne _).setCell (a := ⟨w.heap.size + 2, 1, none⟩) hne _).low (by omega)
     ·
      exact (hw_t16.setCell (show w.heap.size ≤ w.heap.size + 2 from by omega) _).setCell (show w.heap.size ≤ w.heap.size + 2 from by omega) _
    ·
     have hz0 : ((ws.length : Int) == 0) = false := by simp; exact fun e => h0 (by rw [e]; rfl)
     obtain ⟨RZ, RL, RB, HRR⟩ : ∃ RZ RL RB, Hid (doZ z l ws = RZ ∧ doL z l ws = RL ∧ doB z l ws = RB) := ⟨_, _, _, Lib.hid ⟨rfl, rfl, rfl⟩⟩
     have HE : Hid (endC z l a ws = (if RB then 0 else 3) ∧ endZ z l a ws = RZ ∧ endL z l a ws = RL) := Lib.hid (by unfold endC endZ endL; rw [hk, HA.out, decide_eq_false h0, ← HRR.out.1, ← HRR.out.2.1, ← HRR.out.2.2]; exact ⟨by rw [if_neg h0]; rfl, rfl, rfl⟩)
     clear h0
     have hgl_t15 := Rt_t14.lt
     have qBv0 : wr.cell? ⟨w.heap.size, 0, none⟩ = some (.int .i64 z) := by rw [Bv_t14.cell]; rfl
     have qBv1 : wr.cell? ⟨w.heap.size, 1, none⟩ = some (.slice A l.length c) := by rw [Bv_t14.cell]; rfl
     have qBw0 : wr.cell? ⟨w.heap.size + 1, 0, none⟩ = some (.int .i64 a) := by rw [Bw_t14.cell]; rfl
     have qBw1 : wr.cell? ⟨w.heap.size + 1, 1, none⟩ = some (.slice B ws.length d) := by rw [Bw_t14.cell]; rfl
     have qRt0 : wr.cell? ⟨w.heap.size + 2, 0, none⟩ = some (.int .i64 0) := by rw [Rt_t14.cell]; rfl
     have qRt1 : wr.cell? ⟨w.heap.size + 2, 1, none⟩ = some (.slice none 0 0) := by rw [Rt_t14.cell]; rfl
     go_wp2_with fail
     clear qBv0 qBv1 qBw0 qBw1 qRt0 qRt1
     refine (implVersDo z A c l B d ws _ hf hfx hc hm hl hlx v_t14 x_t14).mono ?_
     rw [HRR.out.1, HRR.out.2.1, HRR.out.2.2]
     rintro e w3 ⟨Vx, rfl, x_n, hb3⟩
     have HNx : Hid (∀ k, Vx.ownBlock = some k → k ≠ w.heap.size + 2) := Lib.hid (fun k hk => by have := (x_n.block_lt hk).1; omega)
     obtain ⟨adx, cx, rfl, ry1_x, ry2_x, ry3_x⟩ := x_n.read
     clear ry1_x ry2_x ry3_x
     have v_t16 := v_t14.next hb3
     clear v_t14
     have x_t16 := x_t14.next hb3
     clear x_t14
     have Bv_t16 := Bv_t14.next hb3
     clear Bv_t14
     have Bw_t16 := Bw_t14.next hb3
     clear Bw_t14
     have Rt_t16 := Rt_t14.next hb3
     clear Rt_t14
     have hw_t16 := below_next hw_t14 hb3
     have hs_t16 := hb3.size
     have lw0_t17 := below_next hbl hb3
     have hb_t18 := below_alloc (Below.refl _ w3) (.cells #[.int .i64 RZ, .slice adx RL.length cx] 34)
     have Bq_t18 := blkA w3 #[.int .i64 RZ, .slice adx RL.length cx] 34
     have hz_t18 : (w3.alloc (.cells #[.int .i64 RZ, .slice adx RL.length cx] 34)).heap.size = w3.heap.size + 1 := World.size_alloc _ _
     have v_t19 := v_t16.next hb_t18
     clear v_t16
     have x_t19 := x_t16.next hb_t18
     clear x_t16
     have dx_t19 := x_n.next hb_t18
     clear x_n
     have Bv_t19 := Bv_t16.next hb_t18
     clear Bv_t16
     have Bw_t19 := Bw_t16.next hb_t18
     clear Bw_t16
     have Rt_t19 := Rt_t16.next hb_t18
     clear Rt_t16
     have hw_t19 := below_next hw_t16 hb_t18
     have hs_t19 := hb_t18.size
     have lw0_t20 := below_next lw0_t17 hb_t18
     cases hb : RB
     ·
      subst hb
      have HE : Hid (endC z l a ws = 3 ∧ endZ z l a ws = RZ ∧ endL z l a ws = RL) := Lib.hid ⟨HE.out.1, HE.out.2.1, HE.out.2.2⟩
      have qBv0 : (w3.alloc (.cells #[.int .i64 RZ, .slice adx RL.length cx] 34)).cell? ⟨w.heap.size, 0, none⟩ = some (.int .i64 z) := by rw [Bv_t19.cell]; rfl
      have qBv1 : (w3.alloc (.cells #[.int .i64 RZ, .slice adx RL.length cx] 34)).cell? ⟨w.heap.size, 1, none⟩ = some (.slice A l.length c) := by rw [Bv_t19.cell]; rfl
      have qBw0 : (w3.alloc (.cells #[.int .i64 RZ, .slice adx RL.length cx] 34)).cell? ⟨w.heap.size + 1, 0, none⟩ = some (.int .i64 a) := by rw [Bw_t19.cell]; rfl
      have qBw1 : (w3.alloc (.cells #[.int .i64 RZ, .slice adx RL.length cx] 34)).cell? ⟨w.heap.size + 1, 1, none⟩ = some (.slice B ws.length d) := by rw [Bw_t19.cell]; rfl
      have qRt0 : (w3.alloc (.cells #[.int .i64 RZ, .slice adx RL.length cx] 34)).cell? ⟨w.heap.size + 2, 0, none⟩ = some (.int .i64 0) := by rw [Rt_t19.cell]; rfl
      have qRt1 : (w3.alloc (.cells #[.int .i64 RZ, .slice adx RL.length cx] 34)).cell? ⟨w.heap.size + 2, 1, none⟩ = some (.slice none 0 0) := by rw [Rt_t19.cell]; rfl
      have qBq0 : (w3.alloc (.cells #[.int .i64 RZ, .slice adx RL.length cx] 34)).cell? ⟨w3.heap.size, 0, none⟩ = some (.int .i64 RZ) := by rw [Bq_t18.cell]; rfl
      have qBq1 : (w3.alloc (.cells #[.int .i64 RZ, .slice adx RL.length cx] 34)).cell? ⟨w3.heap.size, 1, none⟩ = some (.slice adx RL.length cx) := by rw [Bq_t18.cell]; rfl
      have d0 := qRt0
      have d1 := qRt1
      have fz0 := Rt_t19.free 0
      have fz1 := Rt_t19.free 1
      go_wp2
      refine bodyPost_ret (v := .tuple #[.agg #[.int .i64 RZ, .slice adx RL.length cx], .int .i64 3]) (by simp [results, Tryz.results35, go_sem, d0, d1]) rfl ?_
      refine ⟨.slice adx RL.length cx, (by first | (rw [HE.out.1, HE.out.2.1]; done) | (rw [HE.out.1, HE.out.2.1]; rfl)), ?_, ?_⟩
      ·
       have hne : ∀ k, (.slice adx RL.length cx : Value).ownBlock = some k → k ≠ w.heap.size + 2 := HNx.out
       rw [HE.out.2.2]
       exact ((dx_t19.setCell (a := ⟨w.heap.size + 2, 0, none⟩) hne _).setCell (a := ⟨w.heap.size + 2, 1, none⟩) hne _).low (by omega)
      ·
       exact (hw_t19.setCell (show w.heap.size ≤ w.heap.size + 2 from by omega) _).setCell (show w.heap.size ≤ w.heap.size + 2 from by omega) _
     ·
      subst hb
      have qBv0 : (w3.alloc (.cells #[.int .i64 RZ, .slice adx RL.length cx] 34)).cell? ⟨w.heap.size, 0, none⟩ = some (.int .i64 z) := by rw [Bv_t19.cell]; rfl
      have qBv1 : (w3.alloc (.cells #[.int .i64 RZ, .slice adx RL.length cx] 34)).cell? ⟨w.heap.size, 1, none⟩ = some (.slice A l.length c) := by rw [Bv_t19.cell]; rfl
      have qBw0 : (w3.alloc (.cells #[.int .i64 RZ, .slice adx RL.length cx] 34)).cell? ⟨w.heap.size + 1, 0, none⟩ = some (.int .i64 a) := by rw [Bw_t19.cell]; rfl
      have qBw1 : (w3.alloc (.cells #[.int .i64 RZ, .slice adx RL.length cx] 34)).cell? ⟨w.heap.size + 1, 1, none⟩ = some (.slice B ws.length d) := by rw [Bw_t19.cell]; rfl
      have qRt0 : (w3.alloc (.cells #[.int .i64 RZ, .slice adx RL.length cx] 34)).cell? ⟨w.heap.size + 2, 0, none⟩ = some (.int .i64 0) := by rw [Rt_t19.cell]; rfl
      have qRt1 : (w3.alloc (.cells #[.int .i64 RZ, .slice adx RL.length cx] 34)).cell? ⟨w.heap.size + 2, 1, none⟩ = some (.slice none 0 0) := by rw [Rt_t19.cell]; rfl
      have qBq0 : (w3.alloc (.cells #[.int .i64 RZ, .slice adx RL.length cx] 34)).cell? ⟨w3.heap.size, 0, none⟩ = some (.int .i64 RZ) := by rw [Bq_t18.cell]; rfl
      have qBq1 : (w3.alloc (.cells #[.int .i64 RZ, .slice adx RL.length cx] 34)).cell? ⟨w3.heap.size, 1, none⟩ = some (.slice adx RL.length cx) := by rw [Bq_t18.cell]; rfl
      have d0 := qRt0
      have d1 := qRt1
      have fz0 := Rt_t19.free 0
      have fz1 := Rt_t19.free 1
      go_wp2
      refine bodyPost_ret (v := .tuple #[.agg #[.int .i64 RZ, .slice adx RL.length cx], .int .i64 0]) (by simp [results, Tryz.results35, go_sem, d0, d1]) rfl ?_
      refine ⟨.slice adx RL.length cx, (by first | (rw [HE.out.1, HE.out.2.1]; done) | (rw [HE.out.1, HE.out.2.1]; rfl)), ?_, ?_⟩
      ·
       have hne : ∀ k, (.slice adx RL.length cx : Value).ownBlock = some k → k ≠ w.heap.size + 2 := HNx.out
       rw [HE.out.2.2]
       exact ((dx_t19.setCell (a := ⟨w.heap.size + 2, 0, none⟩) hne _).setCell (a := ⟨w.heap.size + 2, 1, none⟩) hne _).low (by omega)
      ·
       exact (hw_t19.setCell (show w.heap.size ≤ w.heap.size + 2 from by omega) _).setCell (show w.heap.size ≤ w.heap.size + 2 from by omega) _
theorem implWorkEndO {v u : Value} {z a : Int} {l : List V} {ws : List X} {base base' : Nat} {w : World} (h : OwnG w base v l) (h' : OwnG w base' u ws) (hf : FitVs l) (hfx : FitXs ws) (hl : l.length ≤ 1048576) (hlx : ws.length ≤ 1048576) :
  Calls Tryz.prog 35 #[.agg #[.int .i64 z, v], .agg #[.int .i64 a, u]] w (RetVC w (endZ z l a ws) (endL z l a ws) (endC z l a ws)) := by
 obtain ⟨A, c, rfl, h1, h2, hr⟩ := h.read
 obtain ⟨B, d, rfl, h3, h4, hr'⟩ := h'.read
 exact implWorkEnd z A c l a B d ws w hf h1 h2 hl hfx h3 h4 hlx hr hr'

end Go.Proofs.YtbeklnhngjmpiaaGreat
