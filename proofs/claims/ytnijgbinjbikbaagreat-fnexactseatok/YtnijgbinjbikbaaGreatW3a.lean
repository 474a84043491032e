/- The model's chapter 3: WorkOk, WorkRows and what they call. -/
import Derived.Test.YtnijgbinjbikbaaGreatW3s
import Derived.Test.YtnijgbinjbikbaaGreatW3m
import Derived.Test.YtnijgbinjbikbaaGreatS2b
import Derived.Test.YtnijgbinjbikbaaGreatS2w
import Derived.Test.YtnijgbinjbikbaaGreatB7
namespace Go.Proofs.YtnijgbinjbikbaaGreat
open Go.RowKit
set_option linter.unusedVariables false
set_option maxRecDepth 100000

theorem ownRd {w : World} {base n c : Nat} {A : Option Addr} {l : List R} (h : OwnR w base (.slice A n c) l) : Rd w w.heap.size A l := by
 obtain ⟨A', c', e, _, _, hr⟩ := h.read
 injection e with e1 e2 e3
 subst e1
 exact hr
theorem fitAt {l : List V} (h : FitVs l) (t : Int) : FitR (atL l t) := by
 intro r hr
 obtain ⟨x, hx, rfl⟩ := List.mem_map.1 hr
 have := h x (List.mem_filter.1 hx).1
 exact ⟨this.1, this.2.1, this.2.2.1⟩

set_option maxHeartbeats 2000000 in
theorem l3Rows_c (base : Nat) (v : Value) (rows : List R) (B : Option Addr) (d : Nat) (ws : List X) (w : World) (hown : OwnR w base v rows) (hbase : base ≤ w.heap.size) (hlr : rows.length ≤ 1000) (hlx : ws.length ≤ 1000) (hrx : RdG w w.heap.size B ws) :
  Calls Tryz.prog 58 #[v, .slice B ws.length d] w fun e w' => ∃ v', e = .returned v' ∧ OwnR w' base v' (viewL rows ws) ∧ Below w.heap.size w w' := by
 obtain ⟨A0, c0, rfl, h01, h02, h03⟩ := hown.read
 clear h01 h02 h03
 go_enter Tryz.func58, Tryz.ntmps58
 have hb0 := Below.refl w.heap.size w
 go_wp2
 go_loopw [0, 5] (fun v i W => ∃ k : Nat, k ≤ ws.length ∧ i = .int .i64 k ∧ OwnR W base v (viewL rows (ws.take k)) ∧ Below w.heap.size w W) (fun _ i _ => ws.length - (intOf i).toNat)
 case atStart => exact ⟨0, Nat.zero_le _, rfl, hown, Below.refl _ _⟩
 case round =>
  obtain ⟨k, hk, rfl, hO, hbl⟩ := hrel
  have lq0 := hbl
  have x_t1 := hrx.next hbl
  clear hrx
  have hw_t1 := below_next hb0 hbl
  have hs_t1 := hbl.size
  clear hown
  have hvl := viewL_length (ws.take k) rows
  rw [List.length_take] at hvl
  by_cases hlt : k < ws.length
  ·
   have hkI := lenI _ _ hlt
   have HS := Lib.hid (viewL_succ rows hlt)
   obtain ⟨C, HC⟩ : ∃ C, Hid (viewL rows (ws.take k) = C) := ⟨_, Lib.hid rfl⟩
   rw [HC.out] at hvl hO
   obtain ⟨ebE, eoE, rfl, hqE, _⟩ := x_t1.atX hlt
   clear hqE
   obtain ⟨Ac, cc, rfl, hc1, hc2, hc3⟩ := hO.read
   have hbw := Nat.le_trans hbase hbl.size
   cases hg : ws[k].g
   ·
    have HE : Hid (viewL rows (ws.take (k + 1)) = putL C ws[k].k ws[k].n) := Lib.hid (by rw [HS.out, HC.out, putL_ins]; unfold viewF; rw [hg]; rfl)
    clear HS
    have qE0 : wr.cell? ⟨ebE, eoE + k * 3, none⟩ = some (.string ws[k].k) := (x_t1.fixX rfl hlt).1
    have qE1 : wr.cell? ⟨ebE, eoE + k * 3 + 1, none⟩ = some (.int .i64 ws[k].n) := (x_t1.fixX rfl hlt).2.1
    have qE2 : wr.cell? ⟨ebE, eoE + k * 3 + 2, none⟩ = some (.bool ws[k].g) := (x_t1.fixX rfl hlt).2.2
    go_wp2
    clear qE0 qE1 qE2
    have hb_t3 : Below wr.heap.size wr wr.drew := (Below.refl _ _).drew
    have x_t4 := x_t1.next hb_t3
    clear x_t1
    have o_t4 := hO.next hb_t3
    clear hO
    have hw_t4 := below_next hw_t1 hb_t3
    have hs_t4 := hb_t3.size
    have lw0_t5 := below_next lq0 hb_t3
    refine wp_region_held_drew (S := (fun W => W.cell? ⟨ebE, eoE + k * 3, none⟩ = some (.string ws[k].k) ∧ W.cell? ⟨ebE, eoE + k * 3 + 1, none⟩ = some (.int .i64 ws[k].n) ∧ W.cell? ⟨ebE, eoE + k * 3 + 2, none⟩ = some (.bool ws[k].g))) (by kernel_rfl) ?_ (fun hHeld => ?_)
    focus ((try dsimp only); (exact ⟨(x_t4.fixX rfl hlt).1, (x_t4.fixX rfl hlt).2.1, (x_t4.fixX rfl hlt).2.2⟩))
    refine tk 0 ?_
    refine tk 1 ?_
    refine tk 2 ?_
    refine tk 3 ?_
    refine tk 4 ?_
    refine tk 5 ?_
    refine tk 6 ?_
    refine tk 7 ?_
    refine tk 8 ?_
    refine tk 9 ?_
    refine tk 10 ?_
    (refine rd1 11 (fun K hK => ?_); go_simp; (go_at_call 93; refine (specPut1 Ac cc C ws[k].k ws[k].n _ hc1 (by omega) (ownRd o_t4)).mono ?_; rintro e w1 ⟨Vs, rfl, s_n, hb1⟩; obtain ⟨ads, cs, rfl, ry1_s, ry2_s, ry3_s⟩ := s_n.read; clear ry1_s ry2_s ry3_s; have x_t6 := x_t4.next hb1; clear x_t4; have o_t6 := o_t4.next hb1; clear o_t4; have hw_t6 := below_next hw_t4 hb1; have hs_t6 := hb1.size; have lw0_t7 := below_next lw0_t5 hb1); go_wp2_with fail; refine hK.out _ _ ?_ (fun hHeld => ?_); (focus ((try dsimp only); (exact ⟨(x_t6.fixX rfl hlt).1, (x_t6.fixX rfl hlt).2.1, (x_t6.fixX rfl hlt).2.2⟩))); clear hK K; (try simp only [Act.put, pa, pb, pc]))
    (refine tk 12 ?_; try simp only [Act.put, pa, pb])
    refine wpAnyH_done (by kernel_rfl) ?_ _
    have hsl := s_n.low (show base ≤ _ from by simpa using hbw)
    have qE0 : w1.cell? ⟨ebE, eoE + k * 3, none⟩ = some (.string ws[k].k) := (x_t6.fixX rfl hlt).1
    have qE1 : w1.cell? ⟨ebE, eoE + k * 3 + 1, none⟩ = some (.int .i64 ws[k].n) := (x_t6.fixX rfl hlt).2.1
    have qE2 : w1.cell? ⟨ebE, eoE + k * 3 + 2, none⟩ = some (.bool ws[k].g) := (x_t6.fixX rfl hlt).2.2
    go_wp2
    go_roundw
    case rel => exact ⟨k + 1, by omega, by go_num, by rw [HE.out]; exact hsl, lw0_t7⟩
    case measure => simp [intOf]; omega
   ·
    have HE : Hid (viewL rows (ws.take (k + 1)) = cutL C ws[k].k) := Lib.hid (by rw [HS.out, HC.out, cutL_del]; unfold viewF; rw [hg]; rfl)
    clear HS
    have qE0 : wr.cell? ⟨ebE, eoE + k * 3, none⟩ = some (.string ws[k].k) := (x_t1.fixX rfl hlt).1
    have qE1 : wr.cell? ⟨ebE, eoE + k * 3 + 1, none⟩ = some (.int .i64 ws[k].n) := (x_t1.fixX rfl hlt).2.1
    have qE2 : wr.cell? ⟨ebE, eoE + k * 3 + 2, none⟩ = some (.bool ws[k].g) := (x_t1.fixX rfl hlt).2.2
    go_wp2_with fail
    clear qE0 qE1 qE2
    refine (specCut1 Ac cc C ws[k].k _ hc1 (by omega) (ownRd hO)).mono ?_
    rintro e w1 ⟨Vs, rfl, s_n, hb1⟩
    obtain ⟨ads, cs, rfl, ry1_s, ry2_s, ry3_s⟩ := s_n.read
    clear ry1_s ry2_s ry3_s
    have x_t3 := x_t1.next hb1
    clear x_t1
    have o_t3 := hO.next hb1
    clear hO
    have hw_t3 := below_next hw_t1 hb1
    have hs_t3 := hb1.size
    have lw0_t4 := below_next lq0 hb1
    have hsl := s_n.low (show base ≤ _ from by simpa using hbw)
    have qE0 : w1.cell? ⟨ebE, eoE + k * 3, none⟩ = some (.string ws[k].k) := (x_t3.fixX rfl hlt).1
    have qE1 : w1.cell? ⟨ebE, eoE + k * 3 + 1, none⟩ = some (.int .i64 ws[k].n) := (x_t3.fixX rfl hlt).2.1
    have qE2 : w1.cell? ⟨ebE, eoE + k * 3 + 2, none⟩ = some (.bool ws[k].g) := (x_t3.fixX rfl hlt).2.2
    go_wp2
    go_roundw
    case rel => exact ⟨k + 1, by omega, by go_num, by rw [HE.out]; exact hsl, lw0_t4⟩
    case measure => simp [intOf]; omega
  ·
   have hkI : decide ((k : Int) < (ws.length : Int)) = false := decide_eq_false (by omega)
   rw [show k = ws.length from by omega, List.take_length] at hO
   obtain ⟨Ac, cc, rfl, hc1, hc2, hc3⟩ := hO.read
   clear hc1 hc2 hc3
   go_wp2
   go_ret
   exact ⟨_, rfl, hO, hbl⟩

set_option maxHeartbeats 2000000 in
theorem specWorkOk (z : Int) (A : Option Addr) (c : Nat) (l : List V) (a : Int) (B : Option Addr) (d : Nat) (ws : List X) (w : World) (hf : FitVs l) (hc : l.length ≤ c) (hm : c ≤ maxLen) (hl : l.length ≤ 1048576) (hfx : FitXs ws) (hd : ws.length ≤ d) (hmd : d ≤ maxLen) (hlx : ws.length ≤ 1048576) (hr : RdG w w.heap.size A l) (hrx : RdG w w.heap.size B ws) :
  Calls Tryz.prog 29 #[.agg #[.int .i64 z, .slice A l.length c], .agg #[.int .i64 a, .slice B ws.length d]] w fun e w' => e = .returned (.bool (workB z l a ws)) ∧ Below w.heap.size w w' := by
 go_enter Tryz.func29, Tryz.ntmps29
 have hb_t1 := below_alloc (Below.refl _ w) (.cells #[.int .i64 z, .slice A l.length c] 32)
 have Bv_t1 := blkA w #[.int .i64 z, .slice A l.length c] 32
 have hz_t1 : (w.alloc (.cells #[.int .i64 z, .slice A l.length c] 32)).heap.size = w.heap.size + 1 := World.size_alloc _ _
 have hw_t2 := hb_t1
 have hs_t2 := hb_t1.size
 have hb_t4 := below_alloc (Below.refl _ (w.alloc (.cells #[.int .i64 z, .slice A l.length c] 32))) (.cells #[.int .i64 a, .slice B ws.length d] 25)
 have Bw_t4 := blkA (w.alloc (.cells #[.int .i64 z, .slice A l.length c] 32)) #[.int .i64 a, .slice B ws.length d] 25
 simp only [World.size_alloc] at Bw_t4
 have hz_t4 : ((w.alloc (.cells #[.int .i64 z, .slice A l.length c] 32)).alloc (.cells #[.int .i64 a, .slice B ws.length d] 25)).heap.size = (w.alloc (.cells #[.int .i64 z, .slice A l.length c] 32)).heap.size + 1 := World.size_alloc _ _
 have Bv_t5 := Bv_t1.next hb_t4
 clear Bv_t1
 have hw_t5 := below_next hw_t2 hb_t4
 have hs_t5 := hb_t4.size
 have v_0 := hr.next hw_t5
 have x_0 := hrx.next hw_t5
 cases hv : versB z l
 ·
  have HW : Hid (workB z l a ws = false) := Lib.hid (by unfold workB; rw [hv]; rfl)
  have qBv0 : ((w.alloc (.cells #[.int .i64 z, .slice A l.length c] 32)).alloc (.cells #[.int .i64 a, .slice B ws.length d] 25)).cell? ⟨w.heap.size, 0, none⟩ = some (.int .i64 z) := by rw [Bv_t5.cell]; rfl
  have qBv1 : ((w.alloc (.cells #[.int .i64 z, .slice A l.length c] 32)).alloc (.cells #[.int .i64 a, .slice B ws.length d] 25)).cell? ⟨w.heap.size, 1, none⟩ = some (.slice A l.length c) := by rw [Bv_t5.cell]; rfl
  have qBw0 : ((w.alloc (.cells #[.int .i64 z, .slice A l.length c] 32)).alloc (.cells #[.int .i64 a, .slice B ws.length d] 25)).cell? ⟨w.heap.size + 1, 0, none⟩ = some (.int .i64 a) := by rw [Bw_t4.cell]; rfl
  have qBw1 : ((w.alloc (.cells #[.int .i64 z, .slice A l.length c] 32)).alloc (.cells #[.int .i64 a, .slice B ws.length d] 25)).cell? ⟨w.heap.size + 1, 1, none⟩ = some (.slice B ws.length d) := by rw [Bw_t4.cell]; rfl
  go_wp2
  clear qBv0 qBv1 qBw0 qBw1
  have hb_t7 : Below ((w.alloc (.cells #[.int .i64 z, .slice A l.length c] 32)).alloc (.cells #[.int .i64 a, .slice B ws.length d] 25)).heap.size ((w.alloc (.cells #[.int .i64 z, .slice A l.length c] 32)).alloc (.cells #[.int .i64 a, .slice B ws.length d] 25)) ((w.alloc (.cells #[.int .i64 z, .slice A l.length c] 32)).alloc (.cells #[.int .i64 a, .slice B ws.length d] 25)).drew := (Below.refl _ _).drew
  have v_t8 := v_0.next hb_t7
  clear v_0
  have x_t8 := x_0.next hb_t7
  clear x_0
  have Bv_t8 := Bv_t5.next hb_t7
  clear Bv_t5
  have Bw_t8 := Bw_t4.next hb_t7
  clear Bw_t4
  have hw_t8 := below_next hw_t5 hb_t7
  have hs_t8 := hb_t7.size
  refine wp_region_held_drew (S := (fun W => W.cell? ⟨w.heap.size, 0, none⟩ = some (.int .i64 z) ∧ W.cell? ⟨w.heap.size, 1, none⟩ = some (.slice A l.length c) ∧ W.cell? ⟨w.heap.size + 1, 0, none⟩ = some (.int .i64 a) ∧ W.cell? ⟨w.heap.size + 1, 1, none⟩ = some (.slice B ws.length d))) (by kernel_rfl) ?_ (fun hHeld => ?_)
  focus ((try dsimp only); (exact ⟨by rw [Bv_t8.cell]; rfl, by rw [Bv_t8.cell]; rfl, by rw [Bw_t8.cell]; rfl, by rw [Bw_t8.cell]; rfl⟩))
  refine tk 0 ?_
  (refine rd1 1 (fun K hK => ?_); go_simp; (go_at_call 28; refine (specVersOk z A c l _ hf hc hm v_t8).mono ?_; rintro e w1 ⟨rfl, hb1⟩; rw [hv]; have v_t10 := v_t8.next hb1; clear v_t8; have x_t10 := x_t8.next hb1; clear x_t8; have Bv_t10 := Bv_t8.next hb1; clear Bv_t8; have Bw_t10 := Bw_t8.next hb1; clear Bw_t8; have hw_t10 := below_next hw_t8 hb1; have hs_t10 := hb1.size); go_wp2_with fail; refine hK.out _ _ ?_ (fun hHeld => ?_); (focus ((try dsimp only); (exact ⟨by rw [Bv_t10.cell]; rfl, by rw [Bv_t10.cell]; rfl, by rw [Bw_t10.cell]; rfl, by rw [Bw_t10.cell]; rfl⟩))); clear hK K; (try simp only [Act.put, pa, pb, pc]))
  refine tk 2 ?_
  refine ts 3 ?_
  refine ts 4 ?_
  refine ts 5 ?_
  refine tk 6 ?_
  refine tk 7 ?_
  refine ts 8 ?_
  refine ts 9 ?_
  refine ts 10 ?_
  refine ts 11 ?_
  refine ts 12 ?_
  refine tk 13 ?_
  refine tk 14 ?_
  refine ts 15 ?_
  refine ts 16 ?_
  refine ts 17 ?_
  refine tk 18 ?_
  refine tk 19 ?_
  refine ts 20 ?_
  refine ts 21 ?_
  refine ts 22 ?_
  refine ts 24 ?_
  refine ts 25 ?_
  refine ts 23 ?_
  refine ts 26 ?_
  refine ts 27 ?_
  refine tk 28 ?_
  refine tk 29 ?_
  refine wpAnyH_done (by kernel_rfl) ?_ _
  have qBv0 : w1.cell? ⟨w.heap.size, 0, none⟩ = some (.int .i64 z) := by rw [Bv_t10.cell]; rfl
  have qBv1 : w1.cell? ⟨w.heap.size, 1, none⟩ = some (.slice A l.length c) := by rw [Bv_t10.cell]; rfl
  have qBw0 : w1.cell? ⟨w.heap.size + 1, 0, none⟩ = some (.int .i64 a) := by rw [Bw_t10.cell]; rfl
  have qBw1 : w1.cell? ⟨w.heap.size + 1, 1, none⟩ = some (.slice B ws.length d) := by rw [Bw_t10.cell]; rfl
  go_wp2
  go_ret
  exact ⟨ret_bool (HW.out).symm, hw_t10⟩
 ·
  by_cases h0 : 0 ≤ a
  ·
   have hd0 : decide (0 ≤ a) = true := decide_eq_true h0
   by_cases h1 : a ≤ z
   ·
    have hd1 : decide (a ≤ z) = true := decide_eq_true h1
    cases hx : writesB ws
    ·
     have HW : Hid (workB z l a ws = false) := Lib.hid (by unfold workB; rw [hv, hd0, hd1, hx]; rfl)
     have qBv0 : ((w.alloc (.cells #[.int .i64 z, .slice A l.length c] 32)).alloc (.cells #[.int .i64 a, .slice B ws.length d] 25)).cell? ⟨w.heap.size, 0, none⟩ = some (.int .i64 z) := by rw [Bv_t5.cell]; rfl
     have qBv1 : ((w.alloc (.cells #[.int .i64 z, .slice A l.length c] 32)).alloc (.cells #[.int .i64 a, .slice B ws.length d] 25)).cell? ⟨w.heap.size, 1, none⟩ = some (.slice A l.length c) := by rw [Bv_t5.cell]; rfl
     have qBw0 : ((w.alloc (.cells #[.int .i64 z, .slice A l.length c] 32)).alloc (.cells #[.int .i64 a, .slice B ws.length d] 25)).cell? ⟨w.heap.size + 1, 0, none⟩ = some (.int .i64 a) := by rw [Bw_t4.cell]; rfl
     have qBw1 : ((w.alloc (.cells #[.int .i64 z, .slice A l.length c] 32)).alloc (.cells #[.int .i64 a, .slice B ws.length d] 25)).cell? ⟨w.heap.size + 1, 1, none⟩ = some (.slice B ws.length d) := by rw [Bw_t4.cell]; rfl
     go_wp2
     clear qBv0 qBv1 qBw0 qBw1
     have hb_t7 : Below ((w.alloc (.cells #[.int .i64 z, .slice A l.length c] 32)).alloc (.cells #[.int .i64 a, .slice B ws.length d] 25)).heap.size ((w.alloc (.cells #[.int .i64 z, .slice A l.length c] 32)).alloc (.cells #[.int .i64 a, .slice B ws.length d] 25)) ((w.alloc (.cells #[.int .i64 z, .slice A l.length c] 32)).alloc (.cells #[.int .i64 a, .slice B ws.length d] 25)).drew := (Below.refl _ _).drew
     have v_t8 := v_0.next hb_t7
     clear v_0
     have x_t8 := x_0.next hb_t7
     clear x_0
     have Bv_t8 := Bv_t5.next hb_t7
     clear Bv_t5
     have Bw_t8 := Bw_t4.next hb_t7
     clear Bw_t4
     have hw_t8 := below_next hw_t5 hb_t7
     have hs_t8 := hb_t7.size
     refine wp_region_held_drew (S := (fun W => W.cell? ⟨w.heap.size, 0, none⟩ = some (.int .i64 z) ∧ W.cell? ⟨w.heap.size, 1, none⟩ = some (.slice A l.length c) ∧ W.cell? ⟨w.heap.size + 1, 0, none⟩ = some (.int .i64 a) ∧ W.cell? ⟨w.heap.size + 1, 1, none⟩ = some (.slice B ws.length d))) (by kernel_rfl) ?_ (fun hHeld => ?_)
     focus ((try dsimp only); (exact ⟨by rw [Bv_t8.cell]; rfl, by rw [Bv_t8.cell]; rfl, by rw [Bw_t8.cell]; rfl, by rw [Bw_t8.cell]; rfl⟩))
     refine tk 0 ?_
     (refine rd1 1 (fun K hK => ?_); go_simp; (go_at_call 28; refine (specVersOk z A c l _ hf hc hm v_t8).mono ?_; rintro e w1 ⟨rfl, hb1⟩; rw [hv]; have v_t10 := v_t8.next hb1; clear v_t8; have x_t10 := x_t8.next hb1; clear x_t8; have Bv_t10 := Bv_t8.next hb1; clear Bv_t8; have Bw_t10 := Bw_t8.next hb1; clear Bw_t8; have hw_t10 := below_next hw_t8 hb1; have hs_t10 := hb1.size); go_wp2_with fail; refine hK.out _ _ ?_ (fun hHeld => ?_); (focus ((try dsimp only); (exact ⟨by rw [Bv_t10.cell]; rfl, by rw [Bv_t10.cell]; rfl, by rw [Bw_t10.cell]; rfl, by rw [Bw_t10.cell]; rfl⟩))); clear hK K; (try simp only [Act.put, pa, pb, pc]))
     refine tk 2 ?_
     refine tk 3 ?_
     refine tk 4 ?_
     refine tk 5 ?_
     refine tk 6 ?_
     refine tk 7 ?_
     refine tk 8 ?_
     refine tk 9 ?_
     refine tk 10 ?_
     refine tk 11 ?_
     refine tk 12 ?_
     refine tk 13 ?_
     refine tk 14 ?_
     refine tk 15 ?_
     refine tk 16 ?_
     (refine rd1 17 (fun K hK => ?_); go_simp; (go_at_call 56; refine (specWritesOk B d ws _ hfx hd hmd x_t10).mono ?_; rintro e w2 ⟨rfl, hb2⟩; rw [hx]; have v_t12 := v_t10.next hb2; clear v_t10; have x_t12 := x_t10.next hb2; clear x_t10; have Bv_t12 := Bv_t10.next hb2; clear Bv_t10; have Bw_t12 := Bw_t10.next hb2; clear Bw_t10; have hw_t12 := below_next hw_t10 hb2; have hs_t12 := hb2.size); go_wp2_with fail; refine hK.out _ _ ?_ (fun hHeld => ?_); (focus ((try dsimp only); (exact ⟨by rw [Bv_t12.cell]; rfl, by rw [Bv_t12.cell]; rfl, by rw [Bw_t12.cell]; rfl, by rw [Bw_t12.cell]; rfl⟩))); clear hK K; (try simp only [Act.put, pa, pb, pc]))
     refine tk 18 ?_
     refine tk 19 ?_
     refine ts 20 ?_
     refine ts 21 ?_
     refine ts 22 ?_
     refine ts 24 ?_
     refine ts 25 ?_
     refine ts 23 ?_
     refine ts 26 ?_
     refine ts 27 ?_
     refine tk 28 ?_
     refine tk 29 ?_
     refine wpAnyH_done (by kernel_rfl) ?_ _
     have qBv0 : w2.cell? ⟨w.heap.size, 0, none⟩ = some (.int .i64 z) := by rw [Bv_t12.cell]; rfl
     have qBv1 : w2.cell? ⟨w.heap.size, 1, none⟩ = some (.slice A l.length c) := by rw [Bv_t12.cell]; rfl
     have qBw0 : w2.cell? ⟨w.heap.size + 1, 0, none⟩ = some (.int .i64 a) := by rw [Bw_t12.cell]; rfl
     have qBw1 : w2.cell? ⟨w.heap.size + 1, 1, none⟩ = some (.slice B ws.length d) := by rw [Bw_t12.cell]; rfl
     go_wp2
     go_ret
     exact ⟨ret_bool (HW.out).symm, hw_t12⟩
    ·
     obtain ⟨RB, HRB⟩ : ∃ RB, Hid (rowsB (viewL (atL l a) ws) = RB) := ⟨_, Lib.hid rfl⟩
     have HW : Hid (workB z l a ws = RB) := Lib.hid (by unfold workB; rw [hv, hd0, hd1, hx, HRB.out]; rfl)
     have hP := versB_iff.1 hv
     have hll := hP.len
     have hlw := (writesB_iff.1 hx).len
     have hal := atL_length l a
     have hfv := FitR.viewL (ws := ws) (fitAt hf a) hfx
     clear hP
     obtain ⟨al, HAL⟩ : ∃ al, Hid (atL l a = al) := ⟨_, Lib.hid rfl⟩
     rw [HAL.out] at hal hfv HRB
     have qBv0 : ((w.alloc (.cells #[.int .i64 z, .slice A l.length c] 32)).alloc (.cells #[.int .i64 a, .slice B ws.length d] 25)).cell? ⟨w.heap.size, 0, none⟩ = some (.int .i64 z) := by rw [Bv_t5.cell]; rfl
     have qBv1 : ((w.alloc (.cells #[.int .i64 z, .slice A l.length c] 32)).alloc (.cells #[.int .i64 a, .slice B ws.length d] 25)).cell? ⟨w.heap.size, 1, none⟩ = some (.slice A l.length c) := by rw [Bv_t5.cell]; rfl
     have qBw0 : ((w.alloc (.cells #[.int .i64 z, .slice A l.length c] 32)).alloc (.cells #[.int .i64 a, .slice B ws.length d] 25)).cell? ⟨w.heap.size + 1, 0, none⟩ = some (.int .i64 a) := by rw [Bw_t4.cell]; rfl
     have qBw1 : ((w.alloc (.cells #[.int .i64 z, .slice A l.length c] 32)).alloc (.cells #[.int .i64 a, .slice B ws.length d] 25)).cell? ⟨w.heap.size + 1, 1, none⟩ = some (.slice B ws.length d) := by rw [Bw_t4.cell]; rfl
     go_wp2
     clear qBv0 qBv1 qBw0 qBw1
     have hb_t7 : Below ((w.alloc (.cells #[.int .i64 z, .slice A l.length c] 32)).alloc (.cells #[.int .i64 a, .slice B ws.length d] 25)).heap.size ((w.alloc (.cells #[.int .i64 z, .slice A l.length c] 32)).alloc (.cells #[.int .i64 a, .slice B ws.length d] 25)) ((w.alloc (.cells #[.int .i64 z, .slice A l.length c] 32)).alloc (.cells #[.int .i64 a, .slice B ws.length d] 25)).drew := (Below.refl _ _).drew
     have v_t8 := v_0.next hb_t7
     clear v_0
     have x_t8 := x_0.next hb_t7
     clear x_0
     have Bv_t8 := Bv_t5.next hb_t7
     clear Bv_t5
     have Bw_t8 := Bw_t4.next hb_t7
     clear Bw_t4
     have hw_t8 := below_next hw_t5 hb_t7
     have hs_t8 := hb_t7.size
     refine wp_region_held_drew (S := (fun W => W.cell? ⟨w.heap.size, 0, none⟩ = some (.int .i64 z) ∧ W.cell? ⟨w.heap.size, 1, none⟩ = some (.slice A l.length c) ∧ W.cell? ⟨w.heap.size + 1, 0, none⟩ = some (.int .i64 a) ∧ W.cell? ⟨w.heap.size + 1, 1, none⟩ = some (.slice B ws.length d))) (by kernel_rfl) ?_ (fun hHeld => ?_)
     focus ((try dsimp only); (exact ⟨by rw [Bv_t8.cell]; rfl, by rw [Bv_t8.cell]; rfl, by rw [Bw_t8.cell]; rfl, by rw [Bw_t8.cell]; rfl⟩))
     refine tk 0 ?_
     (refine rd1 1 (fun K hK => ?_); go_simp; (go_at_call 28; refine (specVersOk z A c l _ hf hc hm v_t8).mono ?_; rintro e w1 ⟨rfl, hb1⟩; rw [hv]; have v_t10 := v_t8.next hb1; clear v_t8; have x_t10 := x_t8.next hb1; clear x_t8; have Bv_t10 := Bv_t8.next hb1; clear Bv_t8; have Bw_t10 := Bw_t8.next hb1; clear Bw_t8; have hw_t10 := below_next hw_t8 hb1; have hs_t10 := hb1.size); go_wp2_with fail; refine hK.out _ _ ?_ (fun hHeld => ?_); (focus ((try dsimp only); (exact ⟨by rw [Bv_t10.cell]; rfl, by rw [Bv_t10.cell]; rfl, by rw [Bw_t10.cell]; rfl, by rw [Bw_t10.cell]; rfl⟩))); clear hK K; (try simp only [Act.put, pa, pb, pc]))
     refine tk 2 ?_
     refine tk 3 ?_
     refine tk 4 ?_
     refine tk 5 ?_
     refine tk 6 ?_
     refine tk 7 ?_
     refine tk 8 ?_
     refine tk 9 ?_
     refine tk 10 ?_
     refine tk 11 ?_
     refine tk 12 ?_
     refine tk 13 ?_
     refine tk 14 ?_
     refine tk 15 ?_
     refine tk 16 ?_
     (refine rd1 17 (fun K hK => ?_); go_simp; (go_at_call 56; refine (specWritesOk B d ws _ hfx hd hmd x_t10).mono ?_; rintro e w2 ⟨rfl, hb2⟩; rw [hx]; have v_t12 := v_t10.next hb2; clear v_t10; have x_t12 := x_t10.next hb2; clear x_t10; have Bv_t12 := Bv_t10.next hb2; clear Bv_t10; have Bw_t12 := Bw_t10.next hb2; clear Bw_t10; have hw_t12 := below_next hw_t10 hb2; have hs_t12 := hb2.size); go_wp2_with fail; refine hK.out _ _ ?_ (fun hHeld => ?_); (focus ((try dsimp only); (exact ⟨by rw [Bv_t12.cell]; rfl, by rw [Bv_t12.cell]; rfl, by rw [Bw_t12.cell]; rfl, by rw [Bw_t12.cell]; rfl⟩))); clear hK K; (try simp only [Act.put, pa, pb, pc]))
     refine tk 18 ?_
     refine tk 19 ?_
     refine tk 20 ?_
     refine tk 21 ?_
     refine tk 22 ?_
     refine tk 24 ?_
     refine tk 25 ?_
     (refine rd1 23 (fun K hK => ?_); go_simp; (go_at_call 23; refine (specAt z A c l a _ hc (by omega) v_t12).mono ?_; rw [HAL.out]; rintro e w3 ⟨Vr, rfl, r_n, hb3⟩; obtain ⟨adr, cr, rfl, ry1_r, ry2_r, ry3_r⟩ := r_n.read; clear ry1_r ry2_r ry3_r; have v_t14 := v_t12.next hb3; clear v_t12; have x_t14 := x_t12.next hb3; clear x_t12; have Bv_t14 := Bv_t12.next hb3; clear Bv_t12; have Bw_t14 := Bw_t12.next hb3; clear Bw_t12; have hw_t14 := below_next hw_t12 hb3; have hs_t14 := hb3.size); go_wp2_with fail; refine hK.out _ _ ?_ (fun hHeld => ?_); (focus ((try dsimp only); (exact ⟨by rw [Bv_t14.cell]; rfl, by rw [Bv_t14.cell]; rfl, by rw [Bw_t14.cell]; rfl, by rw [Bw_t14.cell]; rfl⟩))); clear hK K; (try simp only [Act.put, pa, pb, pc]))
     (refine rd1 26 (fun K hK => ?_); go_simp; (go_at_call 58; refine (l3Rows_c _ _ al B d ws _ r_n (show _ ≤ _ from by have := hb3.size; omega) (by omega) (by omega) x_t14).mono ?_; rintro e w4 ⟨Vs, rfl, s_n, hb4⟩; obtain ⟨ads, cs, rfl, ry1_s, ry2_s, ry3_s⟩ := s_n.read; clear ry1_s ry2_s ry3_s; have v_t16 := v_t14.next hb4; clear v_t14; have x_t16 := x_t14.next hb4; clear x_t14; have r_t16 := r_n.next hb4; clear r_n; have Bv_t16 := Bv_t14.next hb4; clear Bv_t14; have Bw_t16 := Bw_t14.next hb4; clear Bw_t14; have hw_t16 := below_next hw_t14 hb4; have hs_t16 := hb4.size); go_wp2_with fail; refine hK.out _ _ ?_ (fun hHeld => ?_); (focus ((try dsimp only); (exact ⟨by rw [Bv_t16.cell]; rfl, by rw [Bv_t16.cell]; rfl, by rw [Bw_t16.cell]; rfl, by rw [Bw_t16.cell]; rfl⟩))); clear hK K; (try simp only [Act.put, pa, pb, pc]))
     (refine rd1 27 (fun K hK => ?_); go_simp; (go_at_call 57; refine (specOkO s_n hfv).mono ?_; rintro e w5 ⟨rfl, hb5⟩; rw [HRB.out]; have v_t18 := v_t16.next hb5; clear v_t16; have x_t18 := x_t16.next hb5; clear x_t16; have r_t18 := r_t16.next hb5; clear r_t16; have s_t18 := s_n.next hb5; clear s_n; have Bv_t18 := Bv_t16.next hb5; clear Bv_t16; have Bw_t18 := Bw_t16.next hb5; clear Bw_t16; have hw_t18 := below_next hw_t16 hb5; have hs_t18 := hb5.size); go_wp2_with fail; refine hK.out _ _ ?_ (fun hHeld => ?_); (focus ((try dsimp only); (exact ⟨by rw [Bv_t18.cell]; rfl, by rw [Bv_t18.cell]; rfl, by rw [Bw_t18.cell]; rfl, by rw [Bw_t18.cell]; rfl⟩))); clear hK K; (try simp only [Act.put, pa, pb, pc]))
     refine tk 28 ?_
     refine tk 29 ?_
     refine wpAnyH_done (by kernel_rfl) ?_ _
     have qBv0 : w5.cell? ⟨w.heap.size, 0, none⟩ = some (.int .i64 z) := by rw [Bv_t18.cell]; rfl
     have qBv1 : w5.cell? ⟨w.heap.size, 1, none⟩ = some (.slice A l.length c) := by rw [Bv_t18.cell]; rfl
     have qBw0 : w5.cell? ⟨w.heap.size + 1, 0, none⟩ = some (.int .i64 a) := by rw [Bw_t18.cell]; rfl
     have qBw1 : w5.cell? ⟨w.heap.size + 1, 1, none⟩ = some (.slice B ws.length d) := by rw [Bw_t18.cell]; rfl
     go_wp2
     go_ret
     exact ⟨ret_bool (HW.out).symm, hw_t18⟩
   ·
    have HW : Hid (workB z l a ws = false) := Lib.hid (by unfold workB; rw [hv, hd0, decide_eq_false h1]; rfl)
    have hd1 : decide (a ≤ z) = false := decide_eq_false h1
    have qBv0 : ((w.alloc (.cells #[.int .i64 z, .slice A l.length c] 32)).alloc (.cells #[.int .i64 a, .slice B ws.length d] 25)).cell? ⟨w.heap.size, 0, none⟩ = some (.int .i64 z) := by rw [Bv_t5.cell]; rfl
    have qBv1 : ((w.alloc (.cells #[.int .i64 z, .slice A l.length c] 32)).alloc (.cells #[.int .i64 a, .slice B ws.length d] 25)).cell? ⟨w.heap.size, 1, none⟩ = some (.slice A l.length c) := by rw [Bv_t5.cell]; rfl
    have qBw0 : ((w.alloc (.cells #[.int .i64 z, .slice A l.length c] 32)).alloc (.cells #[.int .i64 a, .slice B ws.length d] 25)).cell? ⟨w.heap.size + 1, 0, none⟩ = some (.int .i64 a) := by rw [Bw_t4.cell]; rfl
    have qBw1 : ((w.alloc (.cells #[.int .i64 z, .slice A l.length c] 32)).alloc (.cells #[.int .i64 a, .slice B ws.length d] 25)).cell? ⟨w.heap.size + 1, 1, none⟩ = some (.slice B ws.length d) := by rw [Bw_t4.cell]; rfl
    go_wp2
    clear qBv0 qBv1 qBw0 qBw1
    have hb_t7 : Below ((w.alloc (.cells #[.int .i64 z, .slice A l.length c] 32)).alloc (.cells #[.int .i64 a, .slice B ws.length d] 25)).heap.size ((w.alloc (.cells #[.int .i64 z, .slice A l.length c] 32)).alloc (.cells #[.int .i64 a, .slice B ws.length d] 25)) ((w.alloc (.cells #[.int .i64 z, .slice A l.length c] 32)).alloc (.cells #[.int .i64 a, .slice B ws.length d] 25)).drew := (Below.refl _ _).drew
    have v_t8 := v_0.next hb_t7
    clear v_0
    have x_t8 := x_0.next hb_t7
    clear x_0
    have Bv_t8 := Bv_t5.next hb_t7
    clear Bv_t5
    have Bw_t8 := Bw_t4.next hb_t7
    clear Bw_t4
    have hw_t8 := below_next hw_t5 hb_t7
    have hs_t8 := hb_t7.size
    refine wp_region_held_drew (S := (fun W => W.cell? ⟨w.heap.size, 0, none⟩ = some (.int .i64 z) ∧ W.cell? ⟨w.heap.size, 1, none⟩ = some (.slice A l.length c) ∧ W.cell? ⟨w.heap.size + 1, 0, none⟩ = some (.int .i64 a) ∧ W.cell? ⟨w.heap.size + 1, 1, none⟩ = some (.slice B ws.length d))) (by kernel_rfl) ?_ (fun hHeld => ?_)
    focus ((try dsimp only); (exact ⟨by rw [Bv_t8.cell]; rfl, by rw [Bv_t8.cell]; rfl, by rw [Bw_t8.cell]; rfl, by rw [Bw_t8.cell]; rfl⟩))
    refine tk 0 ?_
    (refine rd1 1 (fun K hK => ?_); go_simp; (go_at_call 28; refine (specVersOk z A c l _ hf hc hm v_t8).mono ?_; rintro e w1 ⟨rfl, hb1⟩; rw [hv]; have v_t10 := v_t8.next hb1; clear v_t8; have x_t10 := x_t8.next hb1; clear x_t8; have Bv_t10 := Bv_t8.next hb1; clear Bv_t8; have Bw_t10 := Bw_t8.next hb1; clear Bw_t8; have hw_t10 := below_next hw_t8 hb1; have hs_t10 := hb1.size); go_wp2_with fail; refine hK.out _ _ ?_ (fun hHeld => ?_); (focus ((try dsimp only); (exact ⟨by rw [Bv_t10.cell]; rfl, by rw [Bv_t10.cell]; rfl, by rw [Bw_t10.cell]; rfl, by rw [Bw_t10.cell]; rfl⟩))); clear hK K; (try simp only [Act.put, pa, pb, pc]))
    refine tk 2 ?_
    refine tk 3 ?_
    refine tk 4 ?_
    refine tk 5 ?_
    refine tk 6 ?_
    refine tk 7 ?_
    refine tk 8 ?_
    refine tk 9 ?_
    refine tk 10 ?_
    refine tk 11 ?_
    refine tk 12 ?_
    refine tk 13 ?_
    refine tk 14 ?_
    refine ts 15 ?_
    refine ts 16 ?_
    refine ts 17 ?_
    refine tk 18 ?_
    refine tk 19 ?_
    refine ts 20 ?_
    refine ts 21 ?_
    refine ts 22 ?_
    refine ts 24 ?_
    refine ts 25 ?_
    refine ts 23 ?_
    refine ts 26 ?_
    refine ts 27 ?_
    refine tk 28 ?_
    refine tk 29 ?_
    refine wpAnyH_done (by kernel_rfl) ?_ _
    have qBv0 : w1.cell? ⟨w.heap.size, 0, none⟩ = some (.int .i64 z) := by rw [Bv_t10.cell]; rfl
    have qBv1 : w1.cell? ⟨w.heap.size, 1, none⟩ = some (.slice A l.length c) := by rw [Bv_t10.cell]; rfl
    have qBw0 : w1.cell? ⟨w.heap.size + 1, 0, none⟩ = some (.int .i64 a) := by rw [Bw_t10.cell]; rfl
    have qBw1 : w1.cell? ⟨w.heap.size + 1, 1, none⟩ = some (.slice B ws.length d) := by rw [Bw_t10.cell]; rfl
    go_wp2
    go_ret
    exact ⟨ret_bool (HW.out).symm, hw_t10⟩
  ·
   have HW : Hid (workB z l a ws = false) := Lib.hid (by unfold workB; rw [hv, decide_eq_false h0]; rfl)
   have hd0 : decide (0 ≤ a) = false := decide_eq_false h0
   have qBv0 : ((w.alloc (.cells #[.int .i64 z, .slice A l.length c] 32)).alloc (.cells #[.int .i64 a, .slice B ws.length d] 25)).cell? ⟨w.heap.size, 0, none⟩ = some (.int .i64 z) := by rw [Bv_t5.cell]; rfl
   have qBv1 : ((w.alloc (.cells #[.int .i64 z, .slice A l.length c] 32)).alloc (.cells #[.int .i64 a, .slice B ws.length d] 25)).cell? ⟨w.heap.size, 1, none⟩ = some (.slice A l.length c) := by rw [Bv_t5.cell]; rfl
   have qBw0 : ((w.alloc (.cells #[.int .i64 z, .slice A l.length c] 32)).alloc (.cells #[.int .i64 a, .slice B ws.length d] 25)).cell? ⟨w.heap.size + 1, 0, none⟩ = some (.int .i64 a) := by rw [Bw_t4.cell]; rfl
   have qBw1 : ((w.alloc (.cells #[.int .i64 z, .slice A l.length c] 32)).alloc (.cells #[.int .i64 a, .slice B ws.length d] 25)).cell? ⟨w.heap.size + 1, 1, none⟩ = some (.slice B ws.length d) := by rw [Bw_t4.cell]; rfl
   go_wp2
   clear qBv0 qBv1 qBw0 qBw1
   have hb_t7 : Below ((w.alloc (.cells #[.int .i64 z, .slice A l.length c] 32)).alloc (.cells #[.int .i64 a, .slice B ws.length d] 25)).heap.size ((w.alloc (.cells #[.int .i64 z, .slice A l.length c] 32)).alloc (.cells #[.int .i64 a, .slice B ws.length d] 25)) ((w.alloc (.cells #[.int .i64 z, .slice A l.length c] 32)).alloc (.cells #[.int .i64 a, .slice B ws.length d] 25)).drew := (Below.refl _ _).drew
   have v_t8 := v_0.next hb_t7
   clear v_0
   have x_t8 := x_0.next hb_t7
   clear x_0
   have Bv_t8 := Bv_t5.next hb_t7
   clear Bv_t5
   have Bw_t8 := Bw_t4.next hb_t7
   clear Bw_t4
   have hw_t8 := below_next hw_t5 hb_t7
   have hs_t8 := hb_t7.size
   refine wp_region_held_drew (S := (fun W => W.cell? ⟨w.heap.size, 0, none⟩ = some (.int .i64 z) ∧ W.cell? ⟨w.heap.size, 1, none⟩ = some (.slice A l.length c) ∧ W.cell? ⟨w.heap.size + 1, 0, none⟩ = some (.int .i64 a) ∧ W.cell? ⟨w.heap.size + 1, 1, none⟩ = some (.slice B ws.length d))) (by kernel_rfl) ?_ (fun hHeld => ?_)
   focus ((try dsimp only); (exact ⟨by rw [Bv_t8.cell]; rfl, by rw [Bv_t8.cell]; rfl, by rw [Bw_t8.cell]; rfl, by rw [Bw_t8.cell]; rfl⟩))
   refine tk 0 ?_
   (refine rd1 1 (fun K hK => ?_); go_simp; (go_at_call 28; refine (specVersOk z A c l _ hf hc hm v_t8).mono ?_; rintro e w1 ⟨rfl, hb1⟩; rw [hv]; have v_t10 := v_t8.next hb1; clear v_t8; have x_t10 := x_t8.next hb1; clear x_t8; have Bv_t10 := Bv_t8.next hb1; clear Bv_t8; have Bw_t10 := Bw_t8.next hb1; clear Bw_t8; have hw_t10 := below_next hw_t8 hb1; have hs_t10 := hb1.size); go_wp2_with fail; refine hK.out _ _ ?_ (fun hHeld => ?_); (focus ((try dsimp only); (exact ⟨by rw [Bv_t10.cell]; rfl, by rw [Bv_t10.cell]; rfl, by rw [Bw_t10.cell]; rfl, by rw [Bw_t10.cell]; rfl⟩))); clear hK K; (try simp only [Act.put, pa, pb, pc]))
   refine tk 2 ?_
   refine tk 3 ?_
   refine tk 4 ?_
   refine tk 5 ?_
   refine tk 6 ?_
   refine tk 7 ?_
   refine ts 8 ?_
   refine ts 9 ?_
   refine ts 10 ?_
   refine ts 11 ?_
   refine ts 12 ?_
   refine tk 13 ?_
   refine tk 14 ?_
   refine ts 15 ?_
   refine ts 16 ?_
   refine ts 17 ?_
   refine tk 18 ?_
   refine tk 19 ?_
   refine ts 20 ?_
   refine ts 21 ?_
   refine ts 22 ?_
   refine ts 24 ?_
   refine ts 25 ?_
   refine ts 23 ?_
   refine ts 26 ?_
   refine ts 27 ?_
   refine tk 28 ?_
   refine tk 29 ?_
   refine wpAnyH_done (by kernel_rfl) ?_ _
   have qBv0 : w1.cell? ⟨w.heap.size, 0, none⟩ = some (.int .i64 z) := by rw [Bv_t10.cell]; rfl
   have qBv1 : w1.cell? ⟨w.heap.size, 1, none⟩ = some (.slice A l.length c) := by rw [Bv_t10.cell]; rfl
   have qBw0 : w1.cell? ⟨w.heap.size + 1, 0, none⟩ = some (.int .i64 a) := by rw [Bw_t10.cell]; rfl
   have qBw1 : w1.cell? ⟨w.heap.size + 1, 1, none⟩ = some (.slice B ws.length d) := by rw [Bw_t10.cell]; rfl
   go_wp2
   go_ret
   exact ⟨ret_bool (HW.out).symm, hw_t10⟩

end Go.Proofs.YtnijgbinjbikbaaGreat
