/- The model's VersDo. -/
import Derived.Test.YtbhdgalkedegjaaC2s
namespace Go.Proofs.Ytbhdgalkedegjaa
open Go.RowKit
set_option linter.unusedVariables false
set_option maxRecDepth 100000

set_option maxHeartbeats 4000000 in
theorem specVersDo (z : Int) (A : Option Addr) (c : Nat) (l : List V) (B : Option Addr) (d : Nat) (ws : List X) (w : World) (hfit : FitVs l) (hfx : FitXs ws) (hlc : l.length ≤ c) (hcm : c ≤ maxLen) (hlw : ws.length ≤ d) (hdm : d ≤ maxLen) (hl : l.length ≤ 1048576) (hr : RdG w w.heap.size A l) (hrx : RdG w w.heap.size B ws) :
    Calls Try.prog 38 #[.agg #[.int .i64 z, .slice A l.length c], .slice B ws.length d] w (RetVB w (doZ z l ws) (doL z l ws) (doB z l ws)) := by
  have hb0 : Below w.heap.size w ((w.alloc (.cells #[.int .i64 z, .slice A l.length c] 29)).alloc (.cells #[.int .i64 0, .slice none 0 0] 29)) := below_alloc (below_alloc (Below.refl _ _) _) _
  have hB0 := (blkA w #[.int .i64 z, .slice A l.length c] 29).alloc (.cells #[.int .i64 0, .slice none 0 0] 29)
  have hR0 := blkA (w.alloc (.cells #[.int .i64 z, .slice A l.length c] 29)) #[.int .i64 0, .slice none 0 0] 29
  have hsz : ((w.alloc (.cells #[.int .i64 z, .slice A l.length c] 29)).alloc (.cells #[.int .i64 0, .slice none 0 0] 29)).heap.size = w.heap.size + 2 := by simp
  simp only [World.size_alloc] at hR0
  obtain ⟨wn, HW⟩ : ∃ wn, Hid ((w.alloc (.cells #[.int .i64 z, .slice A l.length c] 29)).alloc (.cells #[.int .i64 0, .slice none 0 0] 29) = wn) := ⟨_, Lib.hid rfl⟩
  rw [HW.out] at hb0 hB0 hR0 hsz
  have q0 : wn.cell? ⟨w.heap.size, 0, none⟩ = some (.int .i64 z) := by rw [hB0.cell]; rfl
  have q1 : wn.cell? ⟨w.heap.size, 1, none⟩ = some (.slice A l.length c) := by rw [hB0.cell]; rfl
  cases hv : versB z l
  · have HE := Lib.hid (do_bad (ws := ws) hv)
    rw [HE.out.1, HE.out.2.1, HE.out.2.2]
    go_enter Try.func38, Try.ntmps38
    go_wp2_with fail
    rw [HW.out]
    refine (specVersOk z A c l _ hfit hlc hcm (hr.next hb0)).mono ?_
    rintro e w1 ⟨rfl, hb1⟩
    rw [hv]
    have hw1 := below_next hb0 hb1
    have hR1 := hR0.next hb1
    have d0 : w1.cell? ⟨w.heap.size + 1, 0, none⟩ = some (.int .i64 0) := by rw [hR1.cell]; rfl
    have d1 : w1.cell? ⟨w.heap.size + 1, 1, none⟩ = some (.slice none 0 0) := by rw [hR1.cell]; rfl
    have f0 := hR1.free 0
    have f1 := hR1.free 1
    go_wp2
    refine bodyPost_ret (v := .tuple #[.agg #[.int .i64 0, .slice none 0 0], .bool false]) (by simp [results, Try.results38, go_sem, d0, d1]) rfl ⟨.slice none 0 0, rfl, OwnG.nil _ _, ?_⟩
    exact (hw1.setCell (by simp <;> omega) _).setCell (by simp <;> omega) _
  have HP := Lib.hid (versB_iff.1 hv)
  cases hx : writesB ws
  · have HE := Lib.hid (do_no (ws := ws) hv (by rw [hx]; rfl))
    rw [HE.out.1, HE.out.2.1, HE.out.2.2]
    go_enter Try.func38, Try.ntmps38
    go_wp2_with fail
    rw [HW.out]
    refine (specVersOk z A c l _ hfit hlc hcm (hr.next hb0)).mono ?_
    rintro e w1 ⟨rfl, hb1⟩
    rw [hv]
    have hw1 := below_next hb0 hb1
    have hR1 := hR0.next hb1
    have hB1 := hB0.next hb1
    go_wp2_with fail
    refine (specWritesOk B d ws _ hfx hlw hdm (hrx.next hw1)).mono ?_
    rintro e w2 ⟨rfl, hb2⟩
    rw [hx]
    have hw2 := below_next hw1 hb2
    have hR2 := hR1.next hb2
    have hB2 := hB1.next hb2
    have g0 : w2.cell? ⟨w.heap.size, 0, none⟩ = some (.int .i64 z) := by rw [hB2.cell]; rfl
    have g1 : w2.cell? ⟨w.heap.size, 1, none⟩ = some (.slice A l.length c) := by rw [hB2.cell]; rfl
    have hs2 := hw2.size
    have hRl := hR2.lt
    go_wp2_with fail
    refine (l2Copy_c z A c l _ (by omega) (hr.next hw2)).mono ?_
    rintro e w3 ⟨v3, rfl, hO3, hb3⟩
    have hw3 := below_next hw2 hb3
    have hR3 := hR2.next hb3
    obtain ⟨b5, n5, c5, rfl⟩ := hO3.slice
    have d0 : w3.cell? ⟨w.heap.size + 1, 0, none⟩ = some (.int .i64 0) := by rw [hR3.cell]; rfl
    have d1 : w3.cell? ⟨w.heap.size + 1, 1, none⟩ = some (.slice none 0 0) := by rw [hR3.cell]; rfl
    have f0 := hR3.free 0
    have f1 := hR3.free 1
    go_wp2
    refine bodyPost_ret (v := .tuple #[.agg #[.int .i64 z, .slice b5 n5 c5], .bool false]) (by simp [results, Try.results38, go_sem, d0, d1]) rfl ⟨.slice b5 n5 c5, rfl, ?_, ?_⟩
    · have hne : ∀ g, (.slice b5 n5 c5 : Value).ownBlock = some g → g ≠ w.heap.size + 1 := fun g hg => by have := (hO3.block_lt hg).1; omega
      exact ((hO3.setCell (a := ⟨w.heap.size + 1, 0, none⟩) hne _).setCell (a := ⟨w.heap.size + 1, 1, none⟩) hne _).low hs2
    · exact (hw3.setCell (by simp <;> omega) _).setCell (by simp <;> omega) _
  have HX := Lib.hid (writesB_iff.1 hx)
  have hlen := doL_len z l ws hl
  obtain ⟨RZ, RL, RB, HRR⟩ : ∃ RZ RL RB, Hid (doZ z l ws = RZ ∧ doL z l ws = RL ∧ doB z l ws = RB) := ⟨_, _, _, Lib.hid ⟨rfl, rfl, rfl⟩⟩
  rw [HRR.out.1, HRR.out.2.1, HRR.out.2.2]
  rw [HRR.out.2.1] at hlen
  go_enter Try.func38, Try.ntmps38
  go_wp2_with fail
  rw [HW.out]
  refine (specVersOk z A c l _ hfit hlc hcm (hr.next hb0)).mono ?_
  rintro e w1 ⟨rfl, hb1⟩
  rw [hv]
  have hw1 := below_next hb0 hb1
  have hR1 := hR0.next hb1
  have hB1 := hB0.next hb1
  go_wp2_with fail
  refine (specWritesOk B d ws _ hfx hlw hdm (hrx.next hw1)).mono ?_
  rintro e w2 ⟨rfl, hb2⟩
  rw [hx]
  have hw2 := below_next hw1 hb2
  have hR2 := hR1.next hb2
  have hB2 := hB1.next hb2
  have g0 : w2.cell? ⟨w.heap.size, 0, none⟩ = some (.int .i64 z) := by rw [hB2.cell]; rfl
  have g1 : w2.cell? ⟨w.heap.size, 1, none⟩ = some (.slice A l.length c) := by rw [hB2.cell]; rfl
  have hs2 := hw2.size
  have hRl := hR2.lt
  go_wp2_with fail
  refine (l2Do_c z A c l B d ws _ HP.out HX.out hfit hfx hlw (hr.next hw2) (hrx.next hw2)).mono ?_
  rw [HRR.out.1, HRR.out.2.1, HRR.out.2.2]
  rintro e w3 ⟨v3, rfl, hO3, hb3⟩
  have hw3 := below_next hw2 hb3
  obtain ⟨b3, c3, rfl, hx1, hx2, hr3⟩ := hO3.read
  clear hx1 hx2
  have hb4 : Below w3.heap.size w3 (w3.alloc (.cells #[.int .i64 RZ, .slice b3 RL.length c3] 29)) := below_alloc (Below.refl _ _) _
  have hX5 := blkA w3 #[.int .i64 RZ, .slice b3 RL.length c3] 29
  have hw5 := below_next hw3 hb4
  have hR5 := (hR2.next hb3).next hb4
  have hr5 := hr3.next hb4
  have hs3 := hb3.size
  have x0 : (w3.alloc (.cells #[.int .i64 RZ, .slice b3 RL.length c3] 29)).cell? ⟨w3.heap.size, 0, none⟩ = some (.int .i64 RZ) := by rw [hX5.cell]; rfl
  have x1 : (w3.alloc (.cells #[.int .i64 RZ, .slice b3 RL.length c3] 29)).cell? ⟨w3.heap.size, 1, none⟩ = some (.slice b3 RL.length c3) := by rw [hX5.cell]; rfl
  go_wp2_with fail
  refine (l2Copy_c RZ b3 c3 RL _ (by omega) hr5).mono ?_
  rintro e w6 ⟨v6, rfl, hO6, hb6⟩
  have hw6 := below_next hw5 hb6
  have hR6 := hR5.next hb6
  have hs5 := hw5.size
  have hRl5 := hR5.lt
  obtain ⟨b6, n6, c6, rfl⟩ := hO6.slice
  have d0 : w6.cell? ⟨w.heap.size + 1, 0, none⟩ = some (.int .i64 0) := by rw [hR6.cell]; rfl
  have d1 : w6.cell? ⟨w.heap.size + 1, 1, none⟩ = some (.slice none 0 0) := by rw [hR6.cell]; rfl
  have f0 := hR6.free 0
  have f1 := hR6.free 1
  go_wp2
  refine bodyPost_ret (v := .tuple #[.agg #[.int .i64 RZ, .slice b6 n6 c6], .bool RB]) (by simp [results, Try.results38, go_sem, d0, d1]) rfl ⟨.slice b6 n6 c6, rfl, ?_, ?_⟩
  · have hne : ∀ g, (.slice b6 n6 c6 : Value).ownBlock = some g → g ≠ w.heap.size + 1 := fun g hg => by have := (hO6.block_lt hg).1; omega
    exact ((hO6.setCell (a := ⟨w.heap.size + 1, 0, none⟩) hne _).setCell (a := ⟨w.heap.size + 1, 1, none⟩) hne _).low hs5
  · exact (hw6.setCell (by simp <;> omega) _).setCell (by simp <;> omega) _

theorem specVersDoO {v u : Value} {z : Int} {l : List V} {ws : List X} {base base' : Nat} {w : World} (h : OwnG w base v l) (h' : OwnG w base' u ws) (hf : FitVs l) (hf' : FitXs ws) (hl : l.length ≤ 1048576) :
    Calls Try.prog 38 #[.agg #[.int .i64 z, v], u] w (RetVB w (doZ z l ws) (doL z l ws) (doB z l ws)) := by
  obtain ⟨A, c, rfl, h1, h2, hr⟩ := h.read
  obtain ⟨B, d, rfl, h3, h4, hr'⟩ := h'.read
  exact specVersDo z A c l B d ws w hf hf' h1 h2 h3 h4 hl hr hr'

end Go.Proofs.Ytbhdgalkedegjaa
