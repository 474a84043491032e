/- Copies of a history: of the program, of the model. -/
import Derived.Test.YtbhdgalkedegjaaC2n
namespace Go.Proofs.Ytbhdgalkedegjaa
open Go.RowKit
set_option linter.unusedVariables false
set_option maxRecDepth 100000

set_option maxHeartbeats 2000000 in
theorem copyVers_c (z : Int) (A : Option Addr) (c : Nat) (l : List V) (w : World) (hl : l.length ≤ 2097152) (hr : RdG w w.heap.size A l) :
    Calls Try.prog 84 #[.agg #[.int .i64 z, .slice A l.length c]] w (RetV w z l) := by
  have hb0 : Below w.heap.size w ((w.alloc (.cells #[.int .i64 z, .slice A l.length c] 29)).alloc (.cells #[.int .i64 0, .slice none 0 0] 29)) := below_alloc (below_alloc (Below.refl _ _) _) _
  have hB0 := (blkA w #[.int .i64 z, .slice A l.length c] 29).alloc (.cells #[.int .i64 0, .slice none 0 0] 29)
  have hR0 := blkA (w.alloc (.cells #[.int .i64 z, .slice A l.length c] 29)) #[.int .i64 0, .slice none 0 0] 29
  have hsz : ((w.alloc (.cells #[.int .i64 z, .slice A l.length c] 29)).alloc (.cells #[.int .i64 0, .slice none 0 0] 29)).heap.size = w.heap.size + 2 := by simp
  simp only [World.size_alloc] at hR0
  obtain ⟨wn, HW⟩ : ∃ wn, Hid ((w.alloc (.cells #[.int .i64 z, .slice A l.length c] 29)).alloc (.cells #[.int .i64 0, .slice none 0 0] 29) = wn) := ⟨_, Lib.hid rfl⟩
  rw [HW.out] at hb0 hB0 hR0 hsz
  have q0 : wn.cell? ⟨w.heap.size, 0, none⟩ = some (.int .i64 z) := by rw [hB0.cell]; rfl
  have q1 : wn.cell? ⟨w.heap.size, 1, none⟩ = some (.slice A l.length c) := by rw [hB0.cell]; rfl
  have hrn := (hr.next hb0.drew)
  have HSZ := Lib.hid hsz
  have hBx : Blk wn.drew w.heap.size 29 #[.int .i64 z, .slice A l.length c] := hB0
  have hRx : Blk wn.drew (w.heap.size + 1) 29 #[.int .i64 0, .slice none 0 0] := hR0
  have HNB : Hid (some w.heap.size ≠ (Value.slice none 0 0).ownBlock ∧ some (w.heap.size + 1) ≠ (Value.slice none 0 0).ownBlock) := ⟨by simp [Value.ownBlock], by simp [Value.ownBlock]⟩
  have HBL : Hid (∀ w', wn.drew.grownBy w' (Value.slice none 0 0).ownBlock → Below w.heap.size w w') := fun w' hg => (OwnG.nil (α := V) wn.drew w.heap.size).below hb0.drew hg (Nat.le_refl _)
  go_enter Try.func84, Try.ntmps84
  go_wp2
  rw [HW.out]
  refine wp_region_held_drew (S := (fun W => W.cell? ⟨w.heap.size, 0, none⟩ = some (.int .i64 z) ∧ W.cell? ⟨w.heap.size, 1, none⟩ = some (.slice A l.length c))) (by kernel_rfl) ?_ (fun hHeld => ?_)
  focus ((try dsimp only); (exact ⟨q0, q1⟩))
  (refine tkW (i := 0) (v := ?_) (by (simp only [ga, gb, gc]; rfl)) (by kernel_rfl) (by (intro _ _ _ h; exact h)) (by rfl) ?_ (by assumption) ?_; rotate_left; (focus ((intro w hSw; (try dsimp only at hSw); go_simp) <;> with_reducible rfl)); (try simp only [Act.put, pa, pb, pc]))
  (refine tkW (i := 1) (v := ?_) (by (simp only [ga, gb, gc]; rfl)) (by kernel_rfl) (by (intro _ _ _ h; exact h)) (by rfl) ?_ (by assumption) ?_; rotate_left; (focus ((intro w hSw; (try dsimp only at hSw); go_simp) <;> with_reducible rfl)); (try simp only [Act.put, pa, pb, pc]))
  (refine tkW (i := 2) (v := ?_) (by (simp only [ga, gb, gc]; rfl)) (by kernel_rfl) (by (intro _ _ _ h; exact h)) (by rfl) ?_ (by assumption) ?_; rotate_left; (focus ((intro w hSw; (try dsimp only at hSw); go_simp) <;> with_reducible rfl)); (try simp only [Act.put, pa, pb, pc]))
  (refine tkW (i := 3) (v := ?_) (by (simp only [ga, gb, gc]; rfl)) (by kernel_rfl) (by (intro _ _ _ h; exact h)) (by rfl) ?_ (by assumption) ?_; rotate_left; (focus ((intro w hSw; (try dsimp only at hSw); go_simp) <;> with_reducible rfl)); (try simp only [Act.put, pa, pb, pc]))
  refine wpAnyH_ready (rs := [4]) (by kernel_rfl) (by simp) (AllReadyH.cons (by (simp only [ga, gb, gc]; rfl)) (fun K hK => ?_) AllReadyH.nil)
  refine step_appG (α := V) wn.drew rfl _ _ _ _ 68 rfl Try.underlying27 Try.underlying27 wn.heap.size (.slice none 0 0) [] rfl (OwnG.nil _ _) A c _ l.length l rfl rfl hrn (by simp; omega) (Nat.le_refl _) ?_
  intro v' w' hown hgr hat
  rw [List.nil_append] at hown
  obtain ⟨bv, nv, cv, rfl⟩ := hown.slice
  have hBw := hBx.grown hgr HNB.out.1
  have hRw := hRx.grown hgr HNB.out.2
  have hbw : Below w.heap.size w w' := HBL.out _ hgr
  have d0 : w'.cell? ⟨w.heap.size + 1, 0, none⟩ = some (.int .i64 0) := (by rw [hRw.cell]; rfl)
  have d1 : w'.cell? ⟨w.heap.size + 1, 1, none⟩ = some (.slice none 0 0) := (by rw [hRw.cell]; rfl)
  have f0 := hRw.free 0
  have f1 := hRw.free 1
  refine hK.out _ _ ?_ (fun hHeld => ?_)
  focus ((try dsimp only); (exact ⟨by rw [hBw.cell]; rfl, by rw [hBw.cell]; rfl⟩))
  clear hK K
  try simp only [Act.put, pa, pb, pc]
  (refine tkW (i := 5) (v := ?_) (by (simp only [ga, gb, gc]; rfl)) (by kernel_rfl) (by (intro _ _ _ h; exact h)) (by rfl) ?_ (by assumption) ?_; rotate_left; (focus ((intro w hSw; (try dsimp only at hSw); go_simp) <;> with_reducible rfl)); (try simp only [Act.put, pa, pb, pc]))
  refine wpAnyH_ready (rs := [6]) (by kernel_rfl) (by simp) (AllReadyH.cons (by (simp only [ga, gb, gc]; rfl)) (fun K hK => ?_) AllReadyH.nil)
  go_simp
  refine hK.out _ _ ?_ (fun hHeld => ?_)
  focus ((try dsimp only); (exact ⟨by rw [((hBw.setOther (a := ⟨w.heap.size + 1, 0, none⟩) (show w.heap.size ≠ w.heap.size + 1 from by omega) _).setOther (a := ⟨w.heap.size + 1, 1, none⟩) (show w.heap.size ≠ w.heap.size + 1 from by omega) _).cell]; rfl, by rw [((hBw.setOther (a := ⟨w.heap.size + 1, 0, none⟩) (show w.heap.size ≠ w.heap.size + 1 from by omega) _).setOther (a := ⟨w.heap.size + 1, 1, none⟩) (show w.heap.size ≠ w.heap.size + 1 from by omega) _).cell]; rfl⟩))
  clear hK K
  try simp only [Act.put, pa, pb, pc]
  refine wpAnyH_done (by kernel_rfl) ?_ _
  go_wp2
  refine bodyPost_ret (v := .agg #[.int .i64 z, .slice bv nv cv]) (by simp [results, Try.results84, go_sem, d0, d1]) rfl ⟨.slice bv nv cv, rfl, ?_, ?_⟩
  · have hne : ∀ g, (Value.slice bv nv cv).ownBlock = some g → g ≠ w.heap.size + 1 := fun g hg => by have := (hown.block_lt hg).1; have := HSZ.out; omega
    exact ((hown.setCell (a := ⟨w.heap.size + 1, 0, none⟩) hne _).setCell (a := ⟨w.heap.size + 1, 1, none⟩) hne _).low (by have := HSZ.out; omega)
  · exact (hbw.setCell (by simp <;> omega) _).setCell (by simp <;> omega) _

set_option maxHeartbeats 2000000 in
theorem l2Copy_c (z : Int) (A : Option Addr) (c : Nat) (l : List V) (w : World) (hl : l.length ≤ 2097152) (hr : RdG w w.heap.size A l) :
    Calls Try.prog 82 #[.agg #[.int .i64 z, .slice A l.length c]] w (RetV w z l) := by
  have hb0 : Below w.heap.size w ((w.alloc (.cells #[.int .i64 z, .slice A l.length c] 29)).alloc (.cells #[.int .i64 0, .slice none 0 0] 29)) := below_alloc (below_alloc (Below.refl _ _) _) _
  have hB0 := (blkA w #[.int .i64 z, .slice A l.length c] 29).alloc (.cells #[.int .i64 0, .slice none 0 0] 29)
  have hR0 := blkA (w.alloc (.cells #[.int .i64 z, .slice A l.length c] 29)) #[.int .i64 0, .slice none 0 0] 29
  have hsz : ((w.alloc (.cells #[.int .i64 z, .slice A l.length c] 29)).alloc (.cells #[.int .i64 0, .slice none 0 0] 29)).heap.size = w.heap.size + 2 := by simp
  simp only [World.size_alloc] at hR0
  obtain ⟨wn, HW⟩ : ∃ wn, Hid ((w.alloc (.cells #[.int .i64 z, .slice A l.length c] 29)).alloc (.cells #[.int .i64 0, .slice none 0 0] 29) = wn) := ⟨_, Lib.hid rfl⟩
  rw [HW.out] at hb0 hB0 hR0 hsz
  have q0 : wn.cell? ⟨w.heap.size, 0, none⟩ = some (.int .i64 z) := by rw [hB0.cell]; rfl
  have q1 : wn.cell? ⟨w.heap.size, 1, none⟩ = some (.slice A l.length c) := by rw [hB0.cell]; rfl
  have hrn := (hr.next hb0.drew)
  have HSZ := Lib.hid hsz
  have hBx : Blk (wn.alloc (.cells #[] 68)).drew w.heap.size 29 #[.int .i64 z, .slice A l.length c] := hB0.alloc (.cells #[] 68)
  have hRx : Blk (wn.alloc (.cells #[] 68)).drew (w.heap.size + 1) 29 #[.int .i64 0, .slice none 0 0] := hR0.alloc (.cells #[] 68)
  have hOf : OwnG (α := V) (wn.alloc (.cells #[] 68)).drew (w.heap.size + 2) (.slice (some ⟨w.heap.size + 2, 0, none⟩) 0 0) [] := by
    have h := OwnG.fresh (α := V) wn (w.heap.size + 2) (by omega)
    rw [hsz] at h
    exact h
  have HNB : Hid (some w.heap.size ≠ (Value.slice (some ⟨w.heap.size + 2, 0, none⟩) 0 0).ownBlock ∧ some (w.heap.size + 1) ≠ (Value.slice (some ⟨w.heap.size + 2, 0, none⟩) 0 0).ownBlock) := ⟨by simp [Value.ownBlock], by simp [Value.ownBlock]⟩
  have HBL : Hid (∀ w', (wn.alloc (.cells #[] 68)).drew.grownBy w' (Value.slice (some ⟨w.heap.size + 2, 0, none⟩) 0 0).ownBlock → Below w.heap.size w w') := fun w' hg => hOf.below (below_alloc hb0 _).drew hg (by omega)
  have hrx : RdG (wn.alloc (.cells #[] 68)).drew (wn.alloc (.cells #[] 68)).drew.heap.size A l := (hr.next (below_alloc hb0 (.cells #[] 68)).drew)
  have hsx : w.heap.size + 2 ≤ (wn.alloc (.cells #[] 68)).drew.heap.size := by show _ ≤ (wn.alloc (.cells #[] 68)).heap.size; rw [World.size_alloc]; omega
  go_enter Try.func82, Try.ntmps82
  go_wp2
  rw [HW.out]
  refine wp_region_held_drew (S := (fun W => W.cell? ⟨w.heap.size, 0, none⟩ = some (.int .i64 z) ∧ W.cell? ⟨w.heap.size, 1, none⟩ = some (.slice A l.length c))) (by kernel_rfl) ?_ (fun hHeld => ?_)
  focus ((try dsimp only); (exact ⟨q0, q1⟩))
  (refine tkW (i := 0) (v := ?_) (by (simp only [ga, gb, gc]; rfl)) (by kernel_rfl) (by (intro _ _ _ h; exact h)) (by rfl) ?_ (by assumption) ?_; rotate_left; (focus ((intro w hSw; (try dsimp only at hSw); go_simp) <;> with_reducible rfl)); (try simp only [Act.put, pa, pb, pc]))
  (refine tkW (i := 1) (v := ?_) (by (simp only [ga, gb, gc]; rfl)) (by kernel_rfl) (by (intro _ _ _ h; exact h)) (by rfl) ?_ (by assumption) ?_; rotate_left; (focus ((intro w hSw; (try dsimp only at hSw); go_simp) <;> with_reducible rfl)); (try simp only [Act.put, pa, pb, pc]))
  (refine tkW (i := 3) (v := ?_) (by (simp only [ga, gb, gc]; rfl)) (by kernel_rfl) (by (intro _ _ _ h; exact h)) (by rfl) ?_ (by assumption) ?_; rotate_left; (focus ((intro w hSw; (try dsimp only at hSw); go_simp) <;> with_reducible rfl)); (try simp only [Act.put, pa, pb, pc]))
  (refine tkW (i := 4) (v := ?_) (by (simp only [ga, gb, gc]; rfl)) (by kernel_rfl) (by (intro _ _ _ h; exact h)) (by rfl) ?_ (by assumption) ?_; rotate_left; (focus ((intro w hSw; (try dsimp only at hSw); go_simp) <;> with_reducible rfl)); (try simp only [Act.put, pa, pb, pc]))
  refine wpAnyH_ready (rs := [2]) (by kernel_rfl) (by simp) (AllReadyH.cons (by (simp only [ga, gb, gc]; rfl)) (fun K hK => ?_) AllReadyH.nil)
  go_simp
  refine hK.out _ _ ?_ (fun hHeld => ?_)
  focus ((try dsimp only); (exact ⟨by rw [hBx.cell]; rfl, by rw [hBx.cell]; rfl⟩))
  clear hK K
  try simp only [Act.put, pa, pb, pc]
  refine wpAnyH_ready (rs := [5]) (by kernel_rfl) (by simp) (AllReadyH.cons (by (simp only [ga, gb, gc]; rfl)) (fun K hK => ?_) AllReadyH.nil)
  refine step_appG (α := V) (wn.alloc (.cells #[] 68)).drew rfl _ _ _ _ 68 rfl Try.underlying27 Try.underlying27 (w.heap.size + 2) (.slice (some ⟨w.heap.size + 2, 0, none⟩) 0 0) [] rfl hOf A c _ l.length l rfl rfl hrx (by simp; omega) hsx ?_
  intro v' w' hown hgr hat
  rw [List.nil_append] at hown
  obtain ⟨bv, nv, cv, rfl⟩ := hown.slice
  have hBw := hBx.grown hgr HNB.out.1
  have hRw := hRx.grown hgr HNB.out.2
  have hbw : Below w.heap.size w w' := HBL.out _ hgr
  have d0 : w'.cell? ⟨w.heap.size + 1, 0, none⟩ = some (.int .i64 0) := (by rw [hRw.cell]; rfl)
  have d1 : w'.cell? ⟨w.heap.size + 1, 1, none⟩ = some (.slice none 0 0) := (by rw [hRw.cell]; rfl)
  have f0 := hRw.free 0
  have f1 := hRw.free 1
  refine hK.out _ _ ?_ (fun hHeld => ?_)
  focus ((try dsimp only); (exact ⟨by rw [hBw.cell]; rfl, by rw [hBw.cell]; rfl⟩))
  clear hK K
  try simp only [Act.put, pa, pb, pc]
  (refine tkW (i := 6) (v := ?_) (by (simp only [ga, gb, gc]; rfl)) (by kernel_rfl) (by (intro _ _ _ h; exact h)) (by rfl) ?_ (by assumption) ?_; rotate_left; (focus ((intro w hSw; (try dsimp only at hSw); go_simp) <;> with_reducible rfl)); (try simp only [Act.put, pa, pb, pc]))
  refine wpAnyH_ready (rs := [7]) (by kernel_rfl) (by simp) (AllReadyH.cons (by (simp only [ga, gb, gc]; rfl)) (fun K hK => ?_) AllReadyH.nil)
  go_simp
  refine hK.out _ _ ?_ (fun hHeld => ?_)
  focus ((try dsimp only); (exact ⟨by rw [((hBw.setOther (a := ⟨w.heap.size + 1, 0, none⟩) (show w.heap.size ≠ w.heap.size + 1 from by omega) _).setOther (a := ⟨w.heap.size + 1, 1, none⟩) (show w.heap.size ≠ w.heap.size + 1 from by omega) _).cell]; rfl, by rw [((hBw.setOther (a := ⟨w.heap.size + 1, 0, none⟩) (show w.heap.size ≠ w.heap.size + 1 from by omega) _).setOther (a := ⟨w.heap.size + 1, 1, none⟩) (show w.heap.size ≠ w.heap.size + 1 from by omega) _).cell]; rfl⟩))
  clear hK K
  try simp only [Act.put, pa, pb, pc]
  refine wpAnyH_done (by kernel_rfl) ?_ _
  go_wp2
  refine bodyPost_ret (v := .agg #[.int .i64 z, .slice bv nv cv]) (by simp [results, Try.results82, go_sem, d0, d1]) rfl ⟨.slice bv nv cv, rfl, ?_, ?_⟩
  · have hne : ∀ g, (Value.slice bv nv cv).ownBlock = some g → g ≠ w.heap.size + 1 := fun g hg => by have := (hown.block_lt hg).1; have := HSZ.out; omega
    exact ((hown.setCell (a := ⟨w.heap.size + 1, 0, none⟩) hne _).setCell (a := ⟨w.heap.size + 1, 1, none⟩) hne _).low (by have := HSZ.out; omega)
  · exact (hbw.setCell (by simp <;> omega) _).setCell (by simp <;> omega) _

theorem copyVersO {v : Value} {z : Int} {l : List V} {base : Nat} {w : World} (h : OwnG w base v l) (hl : l.length ≤ 2097152) :
    Calls Try.prog 84 #[.agg #[.int .i64 z, v]] w (RetV w z l) := by
  obtain ⟨A, c, rfl, h1, h2, hr⟩ := h.read
  exact copyVers_c z A c l w hl hr
theorem l2CopyO {v : Value} {z : Int} {l : List V} {base : Nat} {w : World} (h : OwnG w base v l) (hl : l.length ≤ 2097152) :
    Calls Try.prog 82 #[.agg #[.int .i64 z, v]] w (RetV w z l) := by
  obtain ⟨A, c, rfl, h1, h2, hr⟩ := h.read
  exact l2Copy_c z A c l w hl hr

end Go.Proofs.Ytbhdgalkedegjaa
