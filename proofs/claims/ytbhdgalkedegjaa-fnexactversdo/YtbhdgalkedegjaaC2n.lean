/- The program's storage: write. -/
import Derived.Test.YtbhdgalkedegjaaM2b
namespace Go.Proofs.Ytbhdgalkedegjaa
open Go.RowKit
set_option linter.unusedVariables false
set_option maxRecDepth 100000

theorem endLk_g (t : Int) (ls : List Lk) : (endLk t ls).map Lk.g = ls.map Lk.g := by
  rcases nil_or_snoc ls with rfl | ⟨init, y, rfl⟩
  · rfl
  · rw [endLk_snoc]; simp

def RetWrite (w : World) (base s : Nat) (z : Int) (n : Nat) (l : List V) (x : X) (e : Ending) (w' : World) : Prop :=
  (∃ v, e = .returned v) ∧ ∃ chs', Sto w' base s z chs' ∧ ConsE chs' (writeL l x z) ∧ chs'.length ≤ n + 1 ∧ Chg (fun b => base ≤ b) w w'

set_option maxHeartbeats 2000000 in
theorem write_c (base s : Nat) (z : Int) (chs : List Ch) (l : List V) (x : X) (w : World) (h : Sto w base s z chs) (hC : ConsE chs l) (hz : z ≠ 0) (hl : chs.length ≤ 1048576) :
    Calls Try.prog 116 #[.pointer (some ⟨s, 0, none⟩), .agg #[.string x.k, .int .i64 x.n, .bool x.g]] w (RetWrite w base s z chs.length l x) := by
  have hb0 : Below w.heap.size w (w.alloc (.cells #[.string x.k, .int .i64 x.n, .bool x.g] 58)) := below_alloc (Below.refl _ _) _
  have hX0 := blkA w #[.string x.k, .int .i64 x.n, .bool x.g] 58
  have hslt := h.lt
  have hlo := h.lo
  go_enter Try.func116, Try.ntmps116
  go_wp2_with fail
  refine (chainOf_c base s z chs x.k _ (h.next hb0) hC.asc hl).mono ?_
  rintro e w2 ⟨L, c, R, rfl, hck, hS2, hA2, hch2, hor⟩
  have hX2 := hX0.chg hch2 (show w.heap.size ≠ s from by omega)
  have HC := Lib.hid (fun g => write_flat (g := g) hz hC hck hA2 hor)
  have HLEN := Lib.hid (show (L ++ c :: R).length ≤ chs.length + 1 from by rcases hor with rfl | ⟨rfl, _⟩ <;> simp <;> omega)
  have hw2 : Chg (fun b => base ≤ b) w w2 := (Chg.of_below hb0).trans hch2 (fun b _ hb => by have : b = s := hb; omega)
  have hcm : c ∈ L ++ c :: R := List.mem_append_right _ List.mem_cons_self
  have hCh2 := hS2.cok c hcm
  obtain ⟨v2, hB2, hO2⟩ := hS2.blk
  have s0 : w2.cell? ⟨s, 0, none⟩ = some (.int .i64 z) := by rw [hB2.cell]; rfl
  have HS2 := Lib.hid hS2
  have HCh2 := Lib.hid hCh2
  clear hA2 hor hS2
  go_wp2_with fail
  refine (end_c c z w2 hCh2).mono ?_
  rintro e w3 ⟨⟨v3, rfl⟩, hCh3, hch3⟩
  have hX3 := hX2.chg hch3 (fun hb => hCh2.ne_of hX2 (by decide) (by decide) _ hb rfl)
  have hB3 := hB2.chg hch3 (fun hb => hCh2.ne_of hB2 typesSC typesSL _ hb rfl)
  have hS3 := HS2.out.upd hCh3 rfl hch3 (fun b hb => .inl (by
    rcases hb with rfl | hb
    · exact .inl rfl
    · right; rwa [endLk_g] at hb))
  have hw3 : Chg (fun b => base ≤ b) w w3 := hw2.trans hch3 (fun b _ hb => HS2.out.los c hcm b hb)
  have b0 : w3.cell? ⟨w.heap.size, 0, none⟩ = some (.string x.k) := by rw [hX3.cell]; rfl
  have b1 : w3.cell? ⟨w.heap.size, 1, none⟩ = some (.int .i64 x.n) := by rw [hX3.cell]; rfl
  have b2 : w3.cell? ⟨w.heap.size, 2, none⟩ = some (.bool x.g) := by rw [hX3.cell]; rfl
  have s0 : w3.cell? ⟨s, 0, none⟩ = some (.int .i64 z) := by rw [hB3.cell]; rfl
  have HS3 := Lib.hid hS3
  clear hS3 hX2 hB2 hO2
  cases hg : x.g
  · have hbD : Below w3.heap.size w3 w3.drew := (Below.refl _ _).drew
    have hCh3d := hCh3.next hbD
    have hX3d := hX3.next hbD
    have hB3d := hB3.next hbD
    have hS3d := HS3.out.next hbD
    go_wp2
    refine wp_region_held_drew (S := (fun W => W.cell? ⟨w.heap.size, 0, none⟩ = some (.string x.k) ∧ W.cell? ⟨w.heap.size, 1, none⟩ = some (.int .i64 x.n) ∧ W.cell? ⟨s, 0, none⟩ = some (.int .i64 z))) (by kernel_rfl) ?_ (fun hHeld => ?_)
    focus ((try dsimp only); (exact ⟨b0, b1, s0⟩))
    (refine tkW (i := 0) (v := ?_) (by (simp only [ga, gb, gc]; rfl)) (by kernel_rfl) (by (intro _ _ _ h; exact h)) (by rfl) ?_ (by assumption) ?_; rotate_left; (focus ((intro w hSw; (try dsimp only at hSw); go_simp) <;> with_reducible rfl)); (try simp only [Act.put, pa, pb, pc]))
    (refine tkW (i := 1) (v := ?_) (by (simp only [ga, gb, gc]; rfl)) (by kernel_rfl) (by (intro _ _ _ h; exact h)) (by rfl) ?_ (by assumption) ?_; rotate_left; (focus ((intro w hSw; (try dsimp only at hSw); go_simp) <;> with_reducible rfl)); (try simp only [Act.put, pa, pb, pc]))
    (refine tkW (i := 2) (v := ?_) (by (simp only [ga, gb, gc]; rfl)) (by kernel_rfl) (by (intro _ _ _ h; exact h)) (by rfl) ?_ (by assumption) ?_; rotate_left; (focus ((intro w hSw; (try dsimp only at hSw); go_simp) <;> with_reducible rfl)); (try simp only [Act.put, pa, pb, pc]))
    (refine tkW (i := 3) (v := ?_) (by (simp only [ga, gb, gc]; rfl)) (by kernel_rfl) (by (intro _ _ _ h; exact h)) (by rfl) ?_ (by assumption) ?_; rotate_left; (focus ((intro w hSw; (try dsimp only at hSw); go_simp) <;> with_reducible rfl)); (try simp only [Act.put, pa, pb, pc]))
    (refine tkW (i := 4) (v := ?_) (by (simp only [ga, gb, gc]; rfl)) (by kernel_rfl) (by (intro _ _ _ h; exact h)) (by rfl) ?_ (by assumption) ?_; rotate_left; (focus ((intro w hSw; (try dsimp only at hSw); go_simp) <;> with_reducible rfl)); (try simp only [Act.put, pa, pb, pc]))
    (refine tkW (i := 5) (v := ?_) (by (simp only [ga, gb, gc]; rfl)) (by kernel_rfl) (by (intro _ _ _ h; exact h)) (by rfl) ?_ (by assumption) ?_; rotate_left; (focus ((intro w hSw; (try dsimp only at hSw); go_simp) <;> with_reducible rfl)); (try simp only [Act.put, pa, pb, pc]))
    (refine tkW (i := 6) (v := ?_) (by (simp only [ga, gb, gc]; rfl)) (by kernel_rfl) (by (intro _ _ _ h; exact h)) (by rfl) ?_ (by assumption) ?_; rotate_left; (focus ((intro w hSw; (try dsimp only at hSw); go_simp) <;> with_reducible rfl)); (try simp only [Act.put, pa, pb, pc]))
    (refine tkW (i := 7) (v := ?_) (by (simp only [ga, gb, gc]; rfl)) (by kernel_rfl) (by (intro _ _ _ h; exact h)) (by rfl) ?_ (by assumption) ?_; rotate_left; (focus ((intro w hSw; (try dsimp only at hSw); go_simp) <;> with_reducible rfl)); (try simp only [Act.put, pa, pb, pc]))
    (refine tkW (i := 8) (v := ?_) (by (simp only [ga, gb, gc]; rfl)) (by kernel_rfl) (by (intro _ _ _ h; exact h)) (by rfl) ?_ (by assumption) ?_; rotate_left; (focus ((intro w hSw; (try dsimp only at hSw); go_simp) <;> with_reducible rfl)); (try simp only [Act.put, pa, pb, pc]))
    (refine tkW (i := 9) (v := ?_) (by (simp only [ga, gb, gc]; rfl)) (by kernel_rfl) (by (intro _ _ _ h; exact h)) (by rfl) ?_ (by assumption) ?_; rotate_left; (focus ((intro w hSw; (try dsimp only at hSw); go_simp) <;> with_reducible rfl)); (try simp only [Act.put, pa, pb, pc]))
    (refine wpAnyH_ready (rs := [10]) (by kernel_rfl) (by simp) ?_; refine AllReadyH.cons (by (simp only [ga, gb, gc]; rfl)) (fun K hK => ?_) AllReadyH.nil; go_simp; (go_at_call 109; refine (add_c ⟨c.g, c.k, endLk z c.ls⟩ ⟨x.k, x.n, z, 0⟩ _ hCh3d).mono ?_; rintro e w4 ⟨⟨v4, rfl⟩, g, hg1, hCh4, hch4⟩; have hX4 := hX3d.chg hch4 (fun hb => hCh3d.ne_of hX3d (by decide) (by decide) _ hb rfl); have hB4 := hB3d.chg hch4 (fun hb => hCh3d.ne_of hB3d typesSC typesSL _ hb rfl)); go_wp2_with fail; refine hK.out _ _ ?_ (fun hHeld => ?_); (focus ((try dsimp only); (exact ⟨by rw [hX4.cell]; rfl, by rw [hX4.cell]; rfl, by rw [hB4.cell]; rfl⟩))); clear hK K; (try simp only [Act.put, pa, pb, pc]))
    refine wpAnyH_done (by kernel_rfl) ?_ _
    have hS4 := hS3d.upd hCh4 rfl hch4 (fun b hb => by
      rcases hb with rfl | hb
      · exact .inl (.inl rfl)
      · simp only [List.map_append, List.mem_append, List.map_cons, List.map_nil, List.mem_singleton] at hb
        rcases hb with hb | rfl
        · exact .inl (Or.inr hb : (⟨c.g, c.k, endLk z c.ls⟩ : Ch).has b)
        · exact .inr hg1)
    have hw4 : Chg (fun b => base ≤ b) w w4 := (hw3.below hbD).trans hch4 (fun b _ hb => HS3.out.los _ (List.mem_append_right _ List.mem_cons_self) b hb)
    go_wp2
    go_end0
    refine ⟨⟨_, rfl⟩, _, hS4, ?_, ?_, hw4⟩
    · have := HC.out g
      unfold chWrite at this
      simp only [hg] at this
      exact this
    · have := HLEN.out
      simp only [List.length_append, List.length_cons] at this ⊢
      omega
  · go_wp2
    go_end0
    refine ⟨⟨_, rfl⟩, _, HS3.out, ?_, ?_, hw3⟩
    · have := HC.out 0
      unfold chWrite at this
      simp only [hg] at this
      exact this
    · have := HLEN.out
      simp only [List.length_append, List.length_cons] at this ⊢
      omega

end Go.Proofs.Ytbhdgalkedegjaa
