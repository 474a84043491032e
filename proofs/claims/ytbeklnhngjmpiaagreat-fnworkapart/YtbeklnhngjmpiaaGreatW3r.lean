/- Chapter 3: what the laws' walks need beside the mathematics: lengths and fits; the draw of a history for an empty transaction. -/
import Derived.Test.YtbeklnhngjmpiaaGreatW3q
import Derived.Test.YtbeklnhngjmpiaaGreatDv5
namespace Go.Proofs.YtbeklnhngjmpiaaGreat
open Go.RowKit
set_option linter.unusedVariables false
set_option maxRecDepth 100000

theorem fitR_work {z a : Int} {l : List V} {ws : List X} (hf : FitVs l) (hx : FitXs ws) : FitR (workRows z l a ws) := by
 unfold workRows
 split
 ·
  exact FitR.viewL (fitAt hf a) hx
 ·
  intro r hr; simp at hr
theorem fit_end {z a : Int} {l : List V} {ws : List X} (h : endC z l a ws = 0) (hf : FitVs l) (hx : FitXs ws) : FitVs (endL z l a ws) := by
 obtain ⟨p1, -, ⟨_, _, hl⟩ | ⟨_, hd, _, hl⟩⟩ := end_fine h
 ·
  rw [hl]; exact hf
 ·
  obtain ⟨q1, -, -, -, q5⟩ := do_parts hd
  rw [hl, ← q5]; exact FitVs.doL q1 hf hx
theorem do_len8 {z : Int} {l : List V} {ws : List X} (hf : FitVs l) (hx : FitXs ws) (hl : l.length ≤ 80) : (doL z l ws).length ≤ 80 ∧ FitVs (doL z l ws) := by
 cases hb : doB z l ws
 ·
  rcases do_false hb with ⟨_, e1, e2⟩ | ⟨_, e1, e2⟩ <;> rw [e2]
  ·
   exact ⟨hl, hf⟩
  ·
   exact ⟨by simp, fun r hr => by simp at hr⟩
 ·
  obtain ⟨q1, -, q3, -, q5⟩ := do_parts hb
  refine ⟨?_, FitVs.doL q1 hf hx⟩
  rw [q5]; have := q3.len; omega
theorem undo_sees {z : Int} {l : List V} {a : Int} {ws : List X} {x : X} (h : wputC z l a ws x = 0) :
  wputC z l a (putXs ws x) ⟨x.k, 0, true⟩ = 0 ∧ wputA z l a (putXs ws x) = a ∧ wputW z l a (putXs ws x) ⟨x.k, 0, true⟩ = putXs (putXs ws x) ⟨x.k, 0, true⟩ ∧ (putXs (putXs ws x) ⟨x.k, 0, true⟩).length = (putXs ws x).length ∧ getB (workRows z l a (putXs (putXs ws x) ⟨x.k, 0, true⟩)) x.k = false := by
 obtain ⟨h1, h2, h3⟩ := undo_put h
 obtain ⟨p1, -, -, p4, q1, q2⟩ := put_fine h1
 refine ⟨h1, q1, q2, h3, ?_⟩
 rw [workRows_ok p4, getB_eq, h2]
 simp
theorem end_len8 {z a : Int} {l : List V} {ws : List X} (hf : FitVs l) (hx : FitXs ws) (hl : l.length ≤ 80) : (endL z l a ws).length ≤ 80 ∧ FitVs (endL z l a ws) := by
 unfold endL
 split
 ·
  split
  ·
   exact ⟨hl, hf⟩
  ·
   exact do_len8 hf hx hl
 ·
  exact ⟨by simp, fun r hr => by simp at hr⟩
theorem all_succ {xs : List X} {j : Nat} (hj : j < xs.length) {P : X → Prop} (h : ∀ y ∈ xs.take j, P y) (h1 : P xs[j]) : ∀ y ∈ xs.take (j + 1), P y := by
 intro y hy
 rw [List.take_succ_eq_append_getElem hj] at hy
 rcases List.mem_append.1 hy with hy | hy
 ·
  exact h y hy
 ·
  rw [List.mem_singleton] at hy; subst hy; exact h1

set_option maxHeartbeats 1000000 in
theorem drawWorkNew (A : Option Addr) (n c : Nat) (w : World) (hc : n ≤ c) (hcm : c ≤ maxLen) (hr : RdB w w.heap.size A n) : Calls Tryz.prog 51 #[.slice A n c] w (DrawnV w) := by
 have hR0 := blkA w #[.int .i64 0, .slice none 0 0] 34
 have hw0 : Below w.heap.size w (w.alloc (.cells #[.int .i64 0, .slice none 0 0] 34)) := below_alloc (Below.refl _ _) _
 go_enter Tryz.func51, Tryz.ntmps51
 go_wp2_with fail
 refine (drawVersOk A n c _ hc hcm (hr.next hw0)).mono ?_
 rintro e w1 ⟨z, v, l, rfl, hO, hf, hz, hl, hb1⟩
 have hw1 := below_next hw0 hb1
 have hR1 := hR0.next hb1
 have hne : ∀ k, v.ownBlock = some k → k ≠ w.heap.size := fun k hk => by have h1 := (hO.block_lt hk).1; rw [World.size_alloc] at h1; omega
 have hO1 := hO.low (show w.heap.size ≤ (w.alloc (.cells #[.int .i64 0, .slice none 0 0] 34)).heap.size from by rw [World.size_alloc]; omega)
 obtain ⟨b, m, d, rfl⟩ := hO1.slice
 have d0 : w1.cell? ⟨w.heap.size, 0, none⟩ = some (.int .i64 0) := by rw [hR1.cell]; rfl
 have d1 : w1.cell? ⟨w.heap.size, 1, none⟩ = some (.slice none 0 0) := by rw [hR1.cell]; rfl
 have fz0 := hR1.free 0
 have fz1 := hR1.free 1
 have hRz := (hR1.set_ 0 (.int .i64 z)).set_ 1 (.slice b m d)
 have r0 : ((w1.setCell ⟨w.heap.size, 0, none⟩ (.int .i64 z)).setCell ⟨w.heap.size, 1, none⟩ (.slice b m d)).cell? ⟨w.heap.size, 0, none⟩ = some (.int .i64 z) := by rw [hRz.cell]; rfl
 have r1 : ((w1.setCell ⟨w.heap.size, 0, none⟩ (.int .i64 z)).setCell ⟨w.heap.size, 1, none⟩ (.slice b m d)).cell? ⟨w.heap.size, 1, none⟩ = some (.slice b m d) := by rw [hRz.cell]; rfl
 go_wp2
 refine bodyPost_ret (v := .agg #[.int .i64 z, .slice b m d]) (by simp [results, Tryz.results51, go_sem, r0, r1]) rfl ⟨z, .slice b m d, l, rfl, ?_, hf, hz, hl, ?_⟩
 ·
  exact (hO1.setCell (a := ⟨w.heap.size, 0, none⟩) hne _).setCell (a := ⟨w.heap.size, 1, none⟩) hne _
 ·
  exact (hw1.setCell (Nat.le_refl _) _).setCell (Nat.le_refl _) _

end Go.Proofs.YtbeklnhngjmpiaaGreat
