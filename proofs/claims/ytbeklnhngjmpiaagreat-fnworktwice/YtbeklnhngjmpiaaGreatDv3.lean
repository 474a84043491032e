/- The model's l2Some: a history that is drawn. -/
import Derived.Test.YtbeklnhngjmpiaaGreatDv2
namespace Go.Proofs.YtbeklnhngjmpiaaGreat
open Go.RowKit
set_option linter.unusedVariables false
set_option maxRecDepth 100000

/-- a history in memory of the call's own is returned, and the reader has gone on -/
def RetDV (g : Nat) (A : Option Addr) (n c p K k N : Nat) (w : World) (e : Ending) (w' : World) : Prop :=
 ∃ z v l, e = .returned (.agg #[.int .i64 z, v]) ∧ OwnG w' w.heap.size v l ∧ FitVs l ∧ (-(k : Int) ≤ z ∧ z ≤ 40 + k) ∧ l.length ≤ N ∧ Dw g A n c p K w w'
def zsSome : List Int := [4, 7, 10, 2, 0, 16]
theorem zsSome_small : ∀ z ∈ zsSome, ∃ j : Nat, z = (j : Int) ∧ j ≤ 16 := by
 intro z hz
 simp only [zsSome, List.mem_cons, List.not_mem_nil, or_false] at hz
 exact ⟨z.toNat, by omega, by omega⟩
theorem pick_z (g : Nat) (A : Option Addr) (n c p : Nat) (m : Int) (w : World) (h : Rdr w g A n c p) (hp : p ≤ 1000000) (hm : 1 ≤ m) (hm2 : m ≤ 1000000) :
  Calls Tryz.prog 127 #[.pointer (some ⟨g, 0, none⟩), .int .i64 m] w fun e w' => ∃ k : Nat, e = .returned (.int .i64 k) ∧ (k : Int) < m ∧ Dw g A n c p 1 w w' := by
 obtain ⟨j, rfl⟩ : ∃ j : Nat, m = j := ⟨m.toNat, by omega⟩
 refine (pick_d g A n c p j w h hp (by omega) (by omega)).mono ?_
 rintro e w' ⟨k, rfl, hk, hd⟩
 exact ⟨k, rfl, by omega, hd⟩
theorem versP_nil : VersP 0 [] := ⟨by omega, by omega, by simp, fun i h => by simp at h, fun i h => by simp at h, fun t _ _ => by simp [atL]⟩
theorem fitR_at {l : List V} (h : FitVs l) (t : Int) : FitR (atL l t) := by
 intro r hr
 obtain ⟨x, hx, rfl⟩ := List.mem_map.1 hr
 have := h x (List.mem_filter.1 hx).1
 exact ⟨this.1, this.2.1, this.2.2.1⟩
theorem versP_do {z : Int} {l : List V} {ws : List X} (h : VersP z l) : VersP (doZ z l ws) (doL z l ws) := by
 have hv := versB_yes h
 unfold doZ doL
 rw [hv]
 cases hb : doB z l ws
 ·
  simpa using h
 ·
  unfold doB at hb
  simp only [Bool.and_eq_true] at hb
  simpa using versB_iff.1 hb.2
theorem FitVs.doL {z : Int} {l : List V} {ws : List X} (h : VersP z l) (hf : FitVs l) (hx : FitXs ws) : FitVs (Go.Proofs.YtbeklnhngjmpiaaGreat.doL z l ws) := by
 unfold Go.Proofs.YtbeklnhngjmpiaaGreat.doL
 split
 ·
  split
  ·
   exact FitVs.doAll hf hx (fitI_small h.now0 h.now)
  ·
   exact hf
 ·
  intro r hr; simp at hr
theorem FitVs.trim {z : Int} {l : List V} {t : Int} (hf : FitVs l) : FitVs (trimL z l t) := by
 unfold trimL
 split
 ·
  exact fun r hr => hf r (List.mem_filter.1 hr).1
 ·
  intro r hr; simp at hr
theorem trimZ_of {z : Int} {l : List V} (h : VersP z l) : trimZ z l = z := by unfold trimZ; rw [versB_yes h]; rfl
theorem Dw.keep {g n c p K : Nat} {A : Option Addr} {w w1 w2 : World} (h : Dw g A n c p K w w1) (hg : g < w.heap.size) (hb : Below w.heap.size w1 w2) : Dw g A n c p K w w2 := by
 obtain ⟨q, h1, h2, h3⟩ := h.rdr
 exact ⟨belowKeeps h.grown hb (Nat.le_refl _), q, h1, h2, h3.belowR hb hg⟩

set_option maxHeartbeats 4000000 in
theorem some_d (g : Nat) (A : Option Addr) (n c p : Nat) (w : World) (h : Rdr w g A n c p) (hp : p ≤ 980000) :
  Calls Tryz.prog 95 #[.pointer (some ⟨g, 0, none⟩)] w (RetDV g A n c p 700 0 60 w) := by
 have hgl := h.lt
 have hr0 := (((h.alloc (.cells #[.int .i64 0, .slice none 0 0] 34)).alloc (.cells #[] 118)).alloc (.cells #[.int .i64 0, .slice (some ⟨w.heap.size + 1, 0, none⟩) 0 0] 34)).alloc (.cells #[.int .i64 4, .int .i64 7, .int .i64 10, .int .i64 2, .int .i64 0, .int .i64 16] 3)
 have hR0 := (((blkA w #[.int .i64 0, .slice none 0 0] 34).alloc (.cells #[] 118)).alloc (.cells #[.int .i64 0, .slice (some ⟨w.heap.size + 1, 0, none⟩) 0 0] 34)).alloc (.cells #[.int .i64 4, .int .i64 7, .int .i64 10, .int .i64 2, .int .i64 0, .int .i64 16] 3)
 have hX0 : Blk ((((w.alloc (.cells #[.int .i64 0, .slice none 0 0] 34)).alloc (.cells #[] 118)).alloc (.cells #[.int .i64 0, .slice (some ⟨w.heap.size + 1, 0, none⟩) 0 0] 34)).alloc (.cells #[.int .i64 4, .int .i64 7, .int .i64 10, .int .i64 2, .int .i64 0, .int .i64 16] 3)) (w.heap.size + 2) 34 #[.int .i64 0, .slice (some ⟨w.heap.size + 1, 0, none⟩) 0 0] := by
  have := blkA ((w.alloc (.cells #[.int .i64 0, .slice none 0 0] 34)).alloc (.cells #[] 118)) #[.int .i64 0, .slice (some ⟨w.heap.size + 1, 0, none⟩) 0 0] 34
  rw [World.size_alloc, World.size_alloc] at this
  exact this.alloc _
 have hN0 : Blk ((((w.alloc (.cells #[.int .i64 0, .slice none 0 0] 34)).alloc (.cells #[] 118)).alloc (.cells #[.int .i64 0, .slice (some ⟨w.heap.size + 1, 0, none⟩) 0 0] 34)).alloc (.cells #[.int .i64 4, .int .i64 7, .int .i64 10, .int .i64 2, .int .i64 0, .int .i64 16] 3)) (w.heap.size + 3) 3 (zsSome.map (Value.int .i64)).toArray := by
  have := blkA (((w.alloc (.cells #[.int .i64 0, .slice none 0 0] 34)).alloc (.cells #[] 118)).alloc (.cells #[.int .i64 0, .slice (some ⟨w.heap.size + 1, 0, none⟩) 0 0] 34)) #[.int .i64 4, .int .i64 7, .int .i64 10, .int .i64 2, .int .i64 0, .int .i64 16] 3
  rw [World.size_alloc, World.size_alloc, World.size_alloc] at this
  exact this
 have hO0 : OwnG (α := V) ((((w.alloc (.cells #[.int .i64 0, .slice none 0 0] 34)).alloc (.cells #[] 118)).alloc (.cells #[.int .i64 0, .slice (some ⟨w.heap.size + 1, 0, none⟩) 0 0] 34)).alloc (.cells #[.int .i64 4, .int .i64 7, .int .i64 10, .int .i64 2, .int .i64 0, .int .i64 16] 3)) (w.heap.size + 1) (.slice (some ⟨w.heap.size + 1, 0, none⟩) 0 0) [] := by
  have := OwnG.fresh (α := V) (w.alloc (.cells #[.int .i64 0, .slice none 0 0] 34)) (w.heap.size + 1) (by rw [World.size_alloc]; exact Nat.le_refl _)
  rw [World.size_alloc] at this
  exact (this.alloc _).alloc _
 have hg0 : w.grownBy ((((w.alloc (.cells #[.int .i64 0, .slice none 0 0] 34)).alloc (.cells #[] 118)).alloc (.cells #[.int .i64 0, .slice (some ⟨w.heap.size + 1, 0, none⟩) 0 0] 34)).alloc (.cells #[.int .i64 4, .int .i64 7, .int .i64 10, .int .i64 2, .int .i64 0, .int .i64 16] 3)) (some g) := grown_alloc (grown_alloc (grown_alloc (grown_alloc (World.grownBy.refl w _) _) _) _) _
 go_enter Tryz.func95, Tryz.ntmps95
 go_wp2_with fail
 refine (num_d g A n c p (w.heap.size + 3) zsSome _ hr0 (by omega) (by omega) hN0 6 rfl (by omega) (by omega)).mono ?_
 rintro e w1 ⟨z, rfl, hz, hd⟩
 obtain ⟨j0, rfl, hj0⟩ := zsSome_small z hz
 obtain ⟨q0, hq1, hq2, hq⟩ := hd.rdr
 have hO1 := hO0.drawn (by omega) hd.grown
 have hX1 := hX0.drawn (by omega) hd.grown
 have hR1 := hR0.drawn (by omega) hd.grown
 have hgr1 := hg0.trans hd.grown
 clear hO0 hX0 hR0 hN0 hr0 hg0 hd
 obtain ⟨s, HS, hs1⟩ : ∃ s, Hid (w.heap.size + 2 = s) ∧ w.heap.size < s := ⟨_, Lib.hid rfl, by omega⟩
 rw [HS.out] at hX1
 go_wp2
 rw [HS.out]
 go_loopw [4] (fun i W => ∃ (j : Nat) (z : Int) (b : Option Addr) (m d : Nat) (l : List V), j ≤ 16 ∧ i = .int .i64 j ∧ Blk W s 34 #[.int .i64 z, .slice b m d] ∧ OwnG W (w.heap.size + 1) (.slice b m d) l ∧ VersP z l ∧ FitVs l ∧ Blk W w.heap.size 34 #[.int .i64 0, .slice none 0 0] ∧ w.grownBy W (some g) ∧ ∃ q, p ≤ q ∧ q + 40 * j ≤ p + 650 ∧ Rdr W g A n c q) (fun i _ => (intOf i).toNat)
 case atStart => exact ⟨j0, 0, _, _, _, [], hj0, rfl, hX1, hO1, versP_nil, fun r hr => by simp at hr, hR1, hgr1, q0, by omega, by omega, hq⟩
 case round =>
  clear hO1 hX1 hR1 hgr1 hq
  obtain ⟨j, z, b, m, d, l, hj, rfl, hX, hO, hP, hfit, hR, hgr, q, hq1, hq2, hq⟩ := hrel
  have hz0 := hP.now0
  have hz1 := hP.now
  have hl0 := hP.len
  have HP := Lib.hid hP
  have HFIT := Lib.hid hfit
  obtain ⟨hx1, hx2, hx3, hx4⟩ := hO.rd'
  subst hx1
  clear hP hfit
  have x0 : wr.cell? ⟨s, 0, none⟩ = some (.int .i64 z) := by rw [hX.cell]; rfl
  have x1 : wr.cell? ⟨s, 1, none⟩ = some (.slice b l.length d) := by rw [hX.cell]; rfl
  have hwr := hgr.size
  by_cases hj0 : 0 < j
  ·
   have hj1 : (0 : Int) < (j : Int) := by omega
   go_wp2_with fail
   refine (specAt z b d l z wr hx2 (by omega) hx4).mono ?_
   have hal := atL_length l z
   have hfa := fitR_at HFIT.out z
   obtain ⟨al, HAL⟩ : ∃ al, Hid (atL l z = al) := ⟨_, Lib.hid rfl⟩
   rw [HAL.out] at hal hfa
   rw [HAL.out]
   rintro e w2 ⟨v2, rfl, hO2, hb2⟩
   have hX2 := hX.next hb2
   have hR2 := hR.next hb2
   have hOo2 := hO.next hb2
   have hgr2 := grown_call hgr hb2
   have hq2' := hq.next hb2
   obtain ⟨A2, c2, rfl, hy1, hy2, hy3⟩ := hO2.read
   clear hy1 hy2 hy3
   go_wp2_with fail
   refine (writes_d g A n c q A2 c2 al w2 hq2' (by omega) hfa (by omega) wr.heap.size hq.lt hO2).mono ?_
   rintro e w3 ⟨v3, lx, rfl, hO3, hfx, hlx, hd3⟩
   obtain ⟨q3, h31, h32, hq3⟩ := hd3.rdr
   have hne : s ≠ g := by omega
   have hX3 := hX2.drawn hne hd3.grown
   have hR3 := hR2.drawn (by omega) hd3.grown
   have hOo3 := hOo2.drawn (by omega) hd3.grown
   have hgr3 := hgr2.trans hd3.grown
   obtain ⟨B3, e3, rfl, hy1, hy2, hy3⟩ := hO3.read
   cases hok : writesB lx
   ·
    go_wp2_with fail
    refine (specWritesOk B3 e3 lx w3 hfx hy1 hy2 hy3).mono ?_
    rintro e w4 ⟨rfl, hb4⟩
    rw [hok]
    go_wp2
    go_roundw
    case rel => exact ⟨j - 1, z, _, _, _, l, by omega, by go_num, hX3.next hb4, hOo3.next hb4, HP.out, HFIT.out, hR3.next hb4, grown_call hgr3 hb4, q3, by omega, by omega, hq3.next hb4⟩
    case measure => simp [intOf]; omega
   ·
    go_wp2_with fail
    refine (specWritesOk B3 e3 lx w3 hfx hy1 hy2 hy3).mono ?_
    rintro e w4 ⟨rfl, hb4⟩
    rw [hok]
    have hX4 := hX3.next hb4
    have hOo4 := hOo3.next hb4
    have hO4 := hO3.next hb4
    have y0 : w4.cell? ⟨s, 0, none⟩ = some (.int .i64 z) := by rw [hX4.cell]; rfl
    have y1 : w4.cell? ⟨s, 1, none⟩ = some (.slice b l.length d) := by rw [hX4.cell]; rfl
    have HPD := Lib.hid (versP_do (ws := lx) HP.out)
    have HFD := Lib.hid (FitVs.doL (ws := lx) HP.out HFIT.out hfx)
    obtain ⟨RZ, RL, RB, HRR⟩ : ∃ RZ RL RB, Hid (doZ z l lx = RZ ∧ doL z l lx = RL ∧ doB z l lx = RB) := ⟨_, _, _, Lib.hid ⟨rfl, rfl, rfl⟩⟩
    rw [HRR.out.1, HRR.out.2.1] at HPD
    rw [HRR.out.2.1] at HFD
    go_wp2_with fail
    refine (l2Do_c z b d l B3 e3 lx w4 HP.out (writesB_iff.1 hok) HFIT.out hfx hy1 hOo4.rd'.2.2.2 hO4.rd'.2.2.2).mono ?_
    rw [HRR.out.1, HRR.out.2.1, HRR.out.2.2]
    rintro e w5 ⟨v5, rfl, hO5, hb5⟩
    obtain ⟨b5, n5, c5, rfl⟩ := hO5.slice
    have hX5 := hX4.next hb5
    have z0 : w5.cell? ⟨s, 0, none⟩ = some (.int .i64 z) := by rw [hX5.cell]; rfl
    have z1 : w5.cell? ⟨s, 1, none⟩ = some (.slice b l.length d) := by rw [hX5.cell]; rfl
    have f0 := hX5.free 0
    have f1 := hX5.free 1
    have hR5 := (hR3.next hb4).next hb5
    have hgr5 := grown_call (grown_call hgr3 hb4) hb5
    have hq5 := (hq3.next hb4).next hb5
    have hs4 := hgr3.size
    have hs44 := hb4.size
    have hXl := hX4.lt
    have hbS : Below s w5 ((w5.setCell ⟨s, 0, none⟩ (.int .i64 RZ)).setCell ⟨s, 1, none⟩ (.slice b5 n5 c5)) := ((Below.refl s w5).setCell (Nat.le_refl _) _).setCell (Nat.le_refl _) _
    have hX6 : Blk ((w5.setCell ⟨s, 0, none⟩ (.int .i64 RZ)).setCell ⟨s, 1, none⟩ (.slice b5 n5 c5)) s 34 #[.int .i64 RZ, .slice b5 n5 c5] := ((hX5.set_ 0 _).set_ 1 _).cast rfl
    have hne5 : ∀ k, (Value.slice b5 n5 c5).ownBlock = some k → k ≠ s := fun k hk => by have := (hO5.block_lt hk).1; omega
    have hO6 := (hO5.setCell (a := ⟨s, 0, none⟩) hne5 (.int .i64 RZ)).setCell (a := ⟨s, 1, none⟩) hne5 (.slice b5 n5 c5)
    go_wp2
    go_roundw
    case rel => exact ⟨j - 1, RZ, _, _, _, RL, by omega, by go_num, hX6, hO6.low (by omega), HPD.out, HFD.out, (hbS.block _ (by omega)).trans hR5, belowKeeps hgr5 hbS (by omega), q3, by omega, by omega, hq5.belowR hbS (by omega)⟩
    case measure => simp [intOf]; omega
  ·
   have hj1 : decide ((0 : Int) < (j : Int)) = false := decide_eq_false (by omega)
   have hgS : ∀ {W : World} {u v : Value}, w.grownBy W (some g) → w.grownBy ((W.setCell ⟨w.heap.size, 0, none⟩ u).setCell ⟨w.heap.size, 1, none⟩ v) (some g) := fun hg => belowKeeps hg (((Below.refl w.heap.size _).setCell (Nat.le_refl _) _).setCell (Nat.le_refl _) _) (Nat.le_refl _)
   have hqS : ∀ {W : World} {u v : Value} {q : Nat}, Rdr W g A n c q → Rdr ((W.setCell ⟨w.heap.size, 0, none⟩ u).setCell ⟨w.heap.size, 1, none⟩ v) g A n c q := fun hq => hq.belowR (((Below.refl w.heap.size _).setCell (Nat.le_refl _) _).setCell (Nat.le_refl _) _) hgl
   go_wp2_with fail
   refine (pick_d g A n c q 8 wr hq (by omega) (by omega) (by omega)).mono ?_
   rintro e w2 ⟨k2, rfl, hk2, hd2⟩
   obtain ⟨q2, h21, h22, hq2'⟩ := hd2.rdr
   have hX2 := hX.drawn (by omega) hd2.grown
   have hR2 := hR.drawn (by omega) hd2.grown
   have hO2 := hO.drawn (by omega) hd2.grown
   have hgr2 := hgr.trans hd2.grown
   have y0 : w2.cell? ⟨s, 0, none⟩ = some (.int .i64 z) := by rw [hX2.cell]; rfl
   have y1 : w2.cell? ⟨s, 1, none⟩ = some (.slice b l.length d) := by rw [hX2.cell]; rfl
   by_cases hk20 : k2 = 0
   ·
    have hb2 : ((k2 : Int) == 0) = true := by simp [hk20]
    clear hk20
    have HTZ := Lib.hid (trimZ_of HP.out)
    go_wp2
    have hqd : Rdr w2.drew g A n c q2 := hq2'.next (Below.refl _ _).drew
    have hXd : Blk w2.drew s 34 #[.int .i64 z, .slice b l.length d] := hX2
    have hwz : IntKind.i64.wrap (z + 1) = z + 1 := IntWalk.i64_in _ (by omega)
    refine wp_region_held_drew (S := (fun W => W.cell? ⟨s, 0, none⟩ = some (.int .i64 z) ∧ W.cell? ⟨s, 1, none⟩ = some (.slice b l.length d))) (by kernel_rfl) ?_ (fun hHeld => ?_)
    focus ((try dsimp only); (exact ⟨y0, y1⟩))
    refine tk 0 ?_
    refine tk 1 ?_
    refine tk 2 ?_
    refine tk 3 ?_
    refine tk 4 ?_
    (refine rd1 5 (fun K hK => ?_); go_simp; (go_at_call 127; refine (pick_z g A n c q2 (z + 1) _ hqd (by omega) (by omega) (by omega)).mono ?_; rintro e w3 ⟨k3, rfl, hk3, hd3⟩; obtain ⟨q3, h31, h32, hq3⟩ := hd3.rdr; have hX3 := hXd.drawn (by omega) hd3.grown; have hR3 := (show Blk w2.drew w.heap.size 34 #[.int .i64 0, .slice none 0 0] from hR2).drawn (by omega) hd3.grown; have hO3 := (show OwnG w2.drew (w.heap.size + 1) (.slice b l.length d) l from hO2).drawn (by omega) hd3.grown; have hgr3 := (grown_call hgr2 (Below.refl _ _).drew).trans hd3.grown); go_wp2_with fail; refine hK.out _ _ ?_ (fun hHeld => ?_); (focus ((try dsimp only); (exact ⟨by rw [hX3.cell]; rfl, by rw [hX3.cell]; rfl⟩))); clear hK K; (try simp only [Act.put, pa, pb, pc]))
    (refine rd1 6 (fun K hK => ?_); go_simp; (go_at_call 135; refine (specVersTrim z b d l (k3 : Int) _ HFIT.out hx2 hx3 (by omega) hO3.rd'.2.2.2).mono ?_; rintro e w4 ⟨v4, rfl, hO4, hb4⟩; rw [HTZ.out]; have hX4 := hX3.next hb4; have hR4 := hR3.next hb4; have hgr4 := grown_call hgr3 hb4; have hq4 := hq3.next hb4; have hs3 := hgr3.size; obtain ⟨b4, n4, c4, rfl⟩ := hO4.slice; have d0 : w4.cell? ⟨w.heap.size, 0, none⟩ = some (.int .i64 0) := (by rw [hR4.cell]; rfl); have d1 : w4.cell? ⟨w.heap.size, 1, none⟩ = some (.slice none 0 0) := (by rw [hR4.cell]; rfl); have f0 := hR4.free 0; have f1 := hR4.free 1); go_wp2_with fail; refine hK.out _ _ ?_ (fun hHeld => ?_); (focus ((try dsimp only); (exact ⟨by rw [hX4.cell]; rfl, by rw [hX4.cell]; rfl⟩))); clear hK K; (try simp only [Act.put, pa, pb, pc]))
    have hX5 := (hX4.setOther (a := ⟨w.heap.size, 0, none⟩) (show s ≠ w.heap.size from by omega) (.int .i64 z)).setOther (a := ⟨w.heap.size, 1, none⟩) (show s ≠ w.heap.size from by omega) (.slice b4 n4 c4)
    refine rd1 7 (fun K hK => ?_)
    go_simp
    refine hK.out _ _ ?_ (fun hHeld => ?_)
    focus ((try dsimp only); (exact ⟨by rw [hX5.cell]; rfl, by rw [hX5.cell]; rfl⟩))
    clear hK K
    try simp only [Act.put, pa, pb, pc]
    refine wpAnyH_done (by kernel_rfl) ?_ _
    have hRl := hR3.lt
    have htl := trimL_length z l (k3 : Int)
    go_wp2
    refine bodyPost_ret (v := .agg #[.int .i64 z, .slice b4 n4 c4]) (by simp [results, Tryz.results95, go_sem, d0, d1]) rfl ⟨z, .slice b4 n4 c4, trimL z l (k3 : Int), rfl, ?_, HFIT.out.trim, ⟨by omega, by omega⟩, by omega, ?_⟩
    ·
     have hne : ∀ g, (.slice b4 n4 c4 : Value).ownBlock = some g → g ≠ w.heap.size := fun g hg => by have := (hO4.block_lt hg).1; omega
     exact ((hO4.setCell (a := ⟨w.heap.size, 0, none⟩) hne _).setCell (a := ⟨w.heap.size, 1, none⟩) hne _).low (by omega)
    ·
     exact ⟨(hgS hgr4), q3, by omega, by omega, (hqS hq4)⟩
   ·
    have hb2 : ((k2 : Int) == 0) = false := by simp; omega
    have d0 : w2.cell? ⟨w.heap.size, 0, none⟩ = some (.int .i64 0) := by rw [hR2.cell]; rfl
    have d1 : w2.cell? ⟨w.heap.size, 1, none⟩ = some (.slice none 0 0) := by rw [hR2.cell]; rfl
    have f0 := hR2.free 0
    have f1 := hR2.free 1
    go_wp2
    refine bodyPost_ret (v := .agg #[.int .i64 z, .slice b l.length d]) (by simp [results, Tryz.results95, go_sem, d0, d1]) rfl ⟨z, .slice b l.length d, l, rfl, ?_, HFIT.out, ⟨by omega, by omega⟩, by omega, ?_⟩
    ·
     have hne : ∀ g, (.slice b l.length d : Value).ownBlock = some g → g ≠ w.heap.size := fun g hg => by have := (hO2.block_lt hg).1; omega
     exact ((hO2.setCell (a := ⟨w.heap.size, 0, none⟩) hne _).setCell (a := ⟨w.heap.size, 1, none⟩) hne _).low (by omega)
    ·
     exact ⟨(hgS hgr2), q2, by omega, by omega, (hqS hq2')⟩

end Go.Proofs.YtbeklnhngjmpiaaGreat
