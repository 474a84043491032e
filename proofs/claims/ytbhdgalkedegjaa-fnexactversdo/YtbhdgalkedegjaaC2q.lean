/- The program's VersDo. -/
import Derived.Test.YtbhdgalkedegjaaC2p
namespace Go.Proofs.Ytbhdgalkedegjaa
open Go.RowKit
set_option linter.unusedVariables false
set_option maxRecDepth 100000

noncomputable def doB (z : Int) (l : List V) (ws : List X) : Bool := versB z l && writesB ws && versB (z + 1) (doAll l ws (z + 1))
noncomputable def doZ (z : Int) (l : List V) (ws : List X) : Int := if versB z l then (if doB z l ws then z + 1 else z) else 0
noncomputable def doL (z : Int) (l : List V) (ws : List X) : List V := if versB z l then (if doB z l ws then doAll l ws (z + 1) else l) else []
theorem do_bad {z : Int} {l : List V} {ws : List X} (h : versB z l = false) : doB z l ws = false ∧ doZ z l ws = 0 ∧ doL z l ws = [] := by
  unfold doZ doL doB; rw [h]; simp
theorem do_no {z : Int} {l : List V} {ws : List X} (h : versB z l = true) (hw : (writesB ws && versB (z + 1) (doAll l ws (z + 1))) = false) : doB z l ws = false ∧ doZ z l ws = z ∧ doL z l ws = l := by
  have e : doB z l ws = false := by unfold doB; rw [Bool.and_assoc, hw, Bool.and_false]
  refine ⟨e, ?_, ?_⟩
  · unfold doZ; rw [h, e]; simp
  · unfold doL; rw [h, e]; simp
theorem do_yes {z : Int} {l : List V} {ws : List X} (h : versB z l = true) (hw : writesB ws = true) (hd : versB (z + 1) (doAll l ws (z + 1)) = true) : doB z l ws = true ∧ doZ z l ws = z + 1 ∧ doL z l ws = doAll l ws (z + 1) := by
  have e : doB z l ws = true := by unfold doB; rw [h, hw, hd]; rfl
  refine ⟨e, ?_, ?_⟩
  · unfold doZ; rw [h, e]; simp
  · unfold doL; rw [h, e]; simp
theorem doL_len (z : Int) (l : List V) (ws : List X) (hl : l.length ≤ 1048576) : (doL z l ws).length ≤ 1048577 := by
  unfold doL
  split
  · split
    · rename_i h1 h2
      unfold doB at h2
      simp only [Bool.and_eq_true] at h2
      have := (versB_iff.1 h2.2).len
      omega
    · omega
  · simp

set_option maxHeartbeats 4000000 in
theorem implVersDo (z : Int) (A : Option Addr) (c : Nat) (l : List V) (B : Option Addr) (d : Nat) (ws : List X) (w : World) (hfit : FitVs l) (hfx : FitXs ws) (hlc : l.length ≤ c) (hcm : c ≤ maxLen) (hl : l.length ≤ 1048576) (hld : ws.length ≤ 1048576) (hr : RdG w w.heap.size A l) (hrx : RdG w w.heap.size B ws) :
    Calls Try.prog 39 #[.agg #[.int .i64 z, .slice A l.length c], .slice B ws.length d] w (RetVB w (doZ z l ws) (doL z l ws) (doB z l ws)) := by
  have hb0 : Below w.heap.size w ((w.alloc (.cells #[.int .i64 z, .slice A l.length c] 29)).alloc (.cells #[.int .i64 0, .slice none 0 0] 29)) := below_alloc (below_alloc (Below.refl _ _) _) _
  have hB0 := (blkA w #[.int .i64 z, .slice A l.length c] 29).alloc (.cells #[.int .i64 0, .slice none 0 0] 29)
  have hR0 := blkA (w.alloc (.cells #[.int .i64 z, .slice A l.length c] 29)) #[.int .i64 0, .slice none 0 0] 29
  have hsz : ((w.alloc (.cells #[.int .i64 z, .slice A l.length c] 29)).alloc (.cells #[.int .i64 0, .slice none 0 0] 29)).heap.size = w.heap.size + 2 := by simp
  simp only [World.size_alloc] at hR0
  obtain ⟨wn, HW⟩ : ∃ wn, Hid ((w.alloc (.cells #[.int .i64 z, .slice A l.length c] 29)).alloc (.cells #[.int .i64 0, .slice none 0 0] 29) = wn) := ⟨_, Lib.hid rfl⟩
  rw [HW.out] at hb0 hB0 hR0 hsz
  have q0 : wn.cell? ⟨w.heap.size, 0, none⟩ = some (.int .i64 z) := by rw [hB0.cell]; rfl
  have q1 : wn.cell? ⟨w.heap.size, 1, none⟩ = some (.slice A l.length c) := by rw [hB0.cell]; rfl
  cases hv : versB z l
  · have HE := Lib.hid (do_bad (ws := ws) hv)
    rw [HE.out.1, HE.out.2.1, HE.out.2.2]
    go_enter Try.func39, Try.ntmps39
    go_wp2_with fail
    rw [HW.out]
    refine (implVersOk z A c l _ hfit hlc hcm (hr.next hb0)).mono ?_
    rintro e w1 ⟨rfl, hb1⟩
    rw [hv]
    have hw1 := below_next hb0 hb1
    have hR1 := hR0.next hb1
    have d0 : w1.cell? ⟨w.heap.size + 1, 0, none⟩ = some (.int .i64 0) := by rw [hR1.cell]; rfl
    have d1 : w1.cell? ⟨w.heap.size + 1, 1, none⟩ = some (.slice none 0 0) := by rw [hR1.cell]; rfl
    have f0 := hR1.free 0
    have f1 := hR1.free 1
    go_wp2
    refine bodyPost_ret (v := .tuple #[.agg #[.int .i64 0, .slice none 0 0], .bool false]) (by simp [results, Try.results39, go_sem, d0, d1]) rfl ⟨.slice none 0 0, rfl, OwnG.nil _ _, ?_⟩
    exact (hw1.setCell (by simp <;> omega) _).setCell (by simp <;> omega) _
  have HP := Lib.hid (versB_iff.1 hv)
  cases hx : writesB ws
  · have HE := Lib.hid (do_no (ws := ws) hv (by rw [hx]; rfl))
    rw [HE.out.1, HE.out.2.1, HE.out.2.2]
    go_enter Try.func39, Try.ntmps39
    go_wp2_with fail
    rw [HW.out]
    refine (implVersOk z A c l _ hfit hlc hcm (hr.next hb0)).mono ?_
    rintro e w1 ⟨rfl, hb1⟩
    rw [hv]
    have hw1 := below_next hb0 hb1
    have hR1 := hR0.next hb1
    have hB1 := hB0.next hb1
    go_wp2_with fail
    refine (implWritesOk B d ws _ hfx (by omega) (hrx.next hw1)).mono ?_
    rintro e w2 ⟨rfl, hb2⟩
    rw [hx]
    have hw2 := below_next hw1 hb2
    have hR2 := hR1.next hb2
    have hB2 := hB1.next hb2
    have g0 : w2.cell? ⟨w.heap.size, 0, none⟩ = some (.int .i64 z) := by rw [hB2.cell]; rfl
    have g1 : w2.cell? ⟨w.heap.size, 1, none⟩ = some (.slice A l.length c) := by rw [hB2.cell]; rfl
    go_wp2_with fail
    refine (copyVers_c z A c l _ (by omega) (hr.next hw2)).mono ?_
    rintro e w3 ⟨v3, rfl, hO3, hb3⟩
    have hw3 := below_next hw2 hb3
    have hR3 := hR2.next hb3
    have hs2 := hw2.size
    have hRl := hR2.lt
    have d0 : w3.cell? ⟨w.heap.size + 1, 0, none⟩ = some (.int .i64 0) := by rw [hR3.cell]; rfl
    have d1 : w3.cell? ⟨w.heap.size + 1, 1, none⟩ = some (.slice none 0 0) := by rw [hR3.cell]; rfl
    have f0 := hR3.free 0
    have f1 := hR3.free 1
    obtain ⟨b5, n5, c5, rfl⟩ := hO3.slice
    go_wp2
    refine bodyPost_ret (v := .tuple #[.agg #[.int .i64 z, .slice b5 n5 c5], .bool false]) (by simp [results, Try.results39, go_sem, d0, d1]) rfl ⟨.slice b5 n5 c5, rfl, ?_, ?_⟩
    · have hne : ∀ g, (Value.slice b5 n5 c5).ownBlock = some g → g ≠ w.heap.size + 1 := fun g hg => by have := (hO3.block_lt hg).1; omega
      exact ((hO3.setCell (a := ⟨w.heap.size + 1, 0, none⟩) hne _).setCell (a := ⟨w.heap.size + 1, 1, none⟩) hne _).low hs2
    · exact (hw3.setCell (by simp <;> omega) _).setCell (by simp <;> omega) _
  have HX := Lib.hid (writesB_iff.1 hx)
  cases hd : versB (z + 1) (doAll l ws (z + 1))
  · have HE := Lib.hid (do_no (ws := ws) hv (by rw [hx, hd]; rfl))
    rw [HE.out.1, HE.out.2.1, HE.out.2.2]
    go_enter Try.func39, Try.ntmps39
    go_wp2_with fail
    rw [HW.out]
    refine (implVersOk z A c l _ hfit hlc hcm (hr.next hb0)).mono ?_
    rintro e w1 ⟨rfl, hb1⟩
    rw [hv]
    have hw1 := below_next hb0 hb1
    have hR1 := hR0.next hb1
    have hB1 := hB0.next hb1
    go_wp2_with fail
    refine (implWritesOk B d ws _ hfx (by omega) (hrx.next hw1)).mono ?_
    rintro e w2 ⟨rfl, hb2⟩
    rw [hx]
    have hw2 := below_next hw1 hb2
    have hR2 := hR1.next hb2
    have hB2 := hB1.next hb2
    have g0 : w2.cell? ⟨w.heap.size, 0, none⟩ = some (.int .i64 z) := by rw [hB2.cell]; rfl
    have g1 : w2.cell? ⟨w.heap.size, 1, none⟩ = some (.slice A l.length c) := by rw [hB2.cell]; rfl
    have hs2 := hw2.size
    have hRl := hR2.lt
    go_wp2_with fail
    refine (commit_c z A c l B d ws _ HP.out HX.out hfit hfx (hr.next hw2) (hrx.next hw2)).mono ?_
    rw [hd]
    obtain ⟨DL, HD⟩ : ∃ DL, Hid (doAll l ws (z + 1) = DL) := ⟨_, Lib.hid rfl⟩
    try rw [HD.out]
    rintro e w3 ⟨v3, rfl, hO3, hb3⟩
    obtain ⟨b3, n3, c3, rfl⟩ := hO3.slice
    have hw3 := below_next hw2 hb3
    have hb4 : Below w3.heap.size w3 (w3.alloc (.cells #[.int .i64 (z + 1), .slice b3 n3 c3] 29)) := below_alloc (Below.refl _ _) _
    have hX5 := blkA w3 #[.int .i64 (z + 1), .slice b3 n3 c3] 29
    have hw5 := below_next hw3 hb4
    have hR5 := (hR2.next hb3).next hb4
    have hB5 := (hB2.next hb3).next hb4
    have hO5 := hO3.next hb4
    have hs3 := hb3.size
    have hB3 := hB2.next hb3
    have y0' : w3.cell? ⟨w.heap.size, 0, none⟩ = some (.int .i64 z) := by rw [hB3.cell]; rfl
    have y1' : w3.cell? ⟨w.heap.size, 1, none⟩ = some (.slice A l.length c) := by rw [hB3.cell]; rfl
    have y0 : (w3.alloc (.cells #[.int .i64 (z + 1), .slice b3 n3 c3] 29)).cell? ⟨w.heap.size, 0, none⟩ = some (.int .i64 z) := by rw [hB5.cell]; rfl
    have y1 : (w3.alloc (.cells #[.int .i64 (z + 1), .slice b3 n3 c3] 29)).cell? ⟨w.heap.size, 1, none⟩ = some (.slice A l.length c) := by rw [hB5.cell]; rfl
    go_wp2_with fail
    refine (copyVers_c z A c l _ (by omega) (hr.next hw5)).mono ?_
    rintro e w6 ⟨v3, rfl, hO6, hb6⟩
    have hw6 := below_next hw5 hb6
    have hR6 := hR5.next hb6
    have hs2 := hw5.size
    have hRl := hR5.lt
    have d0 : w6.cell? ⟨w.heap.size + 1, 0, none⟩ = some (.int .i64 0) := by rw [hR6.cell]; rfl
    have d1 : w6.cell? ⟨w.heap.size + 1, 1, none⟩ = some (.slice none 0 0) := by rw [hR6.cell]; rfl
    have f0 := hR6.free 0
    have f1 := hR6.free 1
    obtain ⟨b5, n5, c5, rfl⟩ := hO6.slice
    go_wp2
    refine bodyPost_ret (v := .tuple #[.agg #[.int .i64 z, .slice b5 n5 c5], .bool false]) (by simp [results, Try.results39, go_sem, d0, d1]) rfl ⟨.slice b5 n5 c5, rfl, ?_, ?_⟩
    · have hne : ∀ g, (Value.slice b5 n5 c5).ownBlock = some g → g ≠ w.heap.size + 1 := fun g hg => by have := (hO6.block_lt hg).1; omega
      exact ((hO6.setCell (a := ⟨w.heap.size + 1, 0, none⟩) hne _).setCell (a := ⟨w.heap.size + 1, 1, none⟩) hne _).low hs2
    · exact (hw6.setCell (by simp <;> omega) _).setCell (by simp <;> omega) _
  · have HE := Lib.hid (do_yes (ws := ws) hv hx hd)
    rw [HE.out.1, HE.out.2.1, HE.out.2.2]
    go_enter Try.func39, Try.ntmps39
    go_wp2_with fail
    rw [HW.out]
    refine (implVersOk z A c l _ hfit hlc hcm (hr.next hb0)).mono ?_
    rintro e w1 ⟨rfl, hb1⟩
    rw [hv]
    have hw1 := below_next hb0 hb1
    have hR1 := hR0.next hb1
    have hB1 := hB0.next hb1
    go_wp2_with fail
    refine (implWritesOk B d ws _ hfx (by omega) (hrx.next hw1)).mono ?_
    rintro e w2 ⟨rfl, hb2⟩
    rw [hx]
    have hw2 := below_next hw1 hb2
    have hR2 := hR1.next hb2
    have hB2 := hB1.next hb2
    have g0 : w2.cell? ⟨w.heap.size, 0, none⟩ = some (.int .i64 z) := by rw [hB2.cell]; rfl
    have g1 : w2.cell? ⟨w.heap.size, 1, none⟩ = some (.slice A l.length c) := by rw [hB2.cell]; rfl
    have hs2 := hw2.size
    have hRl := hR2.lt
    go_wp2_with fail
    refine (commit_c z A c l B d ws _ HP.out HX.out hfit hfx (hr.next hw2) (hrx.next hw2)).mono ?_
    rw [hd]
    obtain ⟨DL, HD⟩ : ∃ DL, Hid (doAll l ws (z + 1) = DL) := ⟨_, Lib.hid rfl⟩
    try rw [HD.out]
    rintro e w3 ⟨v3, rfl, hO3, hb3⟩
    obtain ⟨b3, n3, c3, rfl⟩ := hO3.slice
    have hw3 := below_next hw2 hb3
    have hb4 : Below w3.heap.size w3 (w3.alloc (.cells #[.int .i64 (z + 1), .slice b3 n3 c3] 29)) := below_alloc (Below.refl _ _) _
    have hX5 := blkA w3 #[.int .i64 (z + 1), .slice b3 n3 c3] 29
    have hw5 := below_next hw3 hb4
    have hR5 := (hR2.next hb3).next hb4
    have hB5 := (hB2.next hb3).next hb4
    have hO5 := hO3.next hb4
    have hs3 := hb3.size
    have hB3 := hB2.next hb3
    have y0' : w3.cell? ⟨w.heap.size, 0, none⟩ = some (.int .i64 z) := by rw [hB3.cell]; rfl
    have y1' : w3.cell? ⟨w.heap.size, 1, none⟩ = some (.slice A l.length c) := by rw [hB3.cell]; rfl
    have y0 : (w3.alloc (.cells #[.int .i64 (z + 1), .slice b3 n3 c3] 29)).cell? ⟨w.heap.size, 0, none⟩ = some (.int .i64 z) := by rw [hB5.cell]; rfl
    have y1 : (w3.alloc (.cells #[.int .i64 (z + 1), .slice b3 n3 c3] 29)).cell? ⟨w.heap.size, 1, none⟩ = some (.slice A l.length c) := by rw [hB5.cell]; rfl
    have d0 : (w3.alloc (.cells #[.int .i64 (z + 1), .slice b3 n3 c3] 29)).cell? ⟨w.heap.size + 1, 0, none⟩ = some (.int .i64 0) := by rw [hR5.cell]; rfl
    have d1 : (w3.alloc (.cells #[.int .i64 (z + 1), .slice b3 n3 c3] 29)).cell? ⟨w.heap.size + 1, 1, none⟩ = some (.slice none 0 0) := by rw [hR5.cell]; rfl
    have f0 := hR5.free 0
    have f1 := hR5.free 1
    have x0 : (w3.alloc (.cells #[.int .i64 (z + 1), .slice b3 n3 c3] 29)).cell? ⟨w3.heap.size, 0, none⟩ = some (.int .i64 (z + 1)) := by rw [hX5.cell]; rfl
    have x1 : (w3.alloc (.cells #[.int .i64 (z + 1), .slice b3 n3 c3] 29)).cell? ⟨w3.heap.size, 1, none⟩ = some (.slice b3 n3 c3) := by rw [hX5.cell]; rfl
    go_wp2
    refine bodyPost_ret (v := .tuple #[.agg #[.int .i64 (z + 1), .slice b3 n3 c3], .bool true]) (by simp [results, Try.results39, go_sem, d0, d1]) rfl ⟨.slice b3 n3 c3, rfl, ?_, ?_⟩
    · have hne : ∀ g, (Value.slice b3 n3 c3).ownBlock = some g → g ≠ w.heap.size + 1 := fun g hg => by have := (hO3.block_lt hg).1; omega
      rw [HD.out]
      exact ((hO5.setCell (a := ⟨w.heap.size + 1, 0, none⟩) hne _).setCell (a := ⟨w.heap.size + 1, 1, none⟩) hne _).low (by omega)
    · exact (hw5.setCell (by simp <;> omega) _).setCell (by simp <;> omega) _
theorem implVersDoO {v u : Value} {z : Int} {l : List V} {ws : List X} {base base' : Nat} {w : World} (h : OwnG w base v l) (h' : OwnG w base' u ws) (hf : FitVs l) (hf' : FitXs ws) (hl : l.length ≤ 1048576) (hl' : ws.length ≤ 1048576) :
    Calls Try.prog 39 #[.agg #[.int .i64 z, v], u] w (RetVB w (doZ z l ws) (doL z l ws) (doB z l ws)) := by
  obtain ⟨A, c, rfl, h1, h2, hr⟩ := h.read
  obtain ⟨B, d, rfl, h3, h4, hr'⟩ := h'.read
  exact implVersDo z A c l B d ws w hf hf' h1 h2 hl hl' hr hr'

end Go.Proofs.Ytbhdgalkedegjaa
