/- The draws of chapter 3: a transaction, and one that may be bent. -/
import Derived.Test.YtbeklnhngjmpiaaGreatDw1
import Derived.Test.YtbeklnhngjmpiaaGreatDv5
import Derived.Test.YtbeklnhngjmpiaaGreatW3n
import Derived.Test.YtbeklnhngjmpiaaGreatW3e
import Derived.Deep.DeepCutAuto
namespace Go.Proofs.YtbeklnhngjmpiaaGreat
open Go.RowKit
set_option linter.unusedVariables false
set_option maxRecDepth 100000

def RetDVP (g : Nat) (A : Option Addr) (n c p K : Nat) (w : World) (e : Ending) (w' : World) : Prop :=
 ∃ z v l, e = .returned (.agg #[.int .i64 z, v]) ∧ OwnG w' w.heap.size v l ∧ FitVs l ∧ VersP z l ∧ Dw g A n c p K w w'
def RetDW (g : Nat) (A : Option Addr) (n c p K N : Nat) (w : World) (e : Ending) (w' : World) : Prop :=
 ∃ a v l, e = .returned (.agg #[.int .i64 a, v]) ∧ OwnG w' w.heap.size v l ∧ FitXs l ∧ FitI a ∧ l.length ≤ N ∧ Dw g A n c p K w w'
theorem typesWV : (38 : TypeId) ≠ 118 := by decide
theorem typesWX : (38 : TypeId) ≠ 52 := by decide
theorem wrap_next {a : Int} (h : FitI a) : ∃ a1, IntKind.i64.wrap (a + 1) = a1 ∧ FitI a1 := by
 by_cases e : a = 9223372036854775807
 ·
  subst e; exact ⟨-9223372036854775808, by decide, by unfold FitI; omega⟩
 ·
  unfold FitI at h
  exact ⟨a + 1, IntWalk.i64_in _ (by omega), by unfold FitI; omega⟩
def bw (a : Int) : List Int := [-1, a, 41, 9223372036854775807, 0]
theorem bw_fit {a : Int} (h : FitI a) : ∀ z ∈ bw a, FitI z := by
 intro z hz
 simp only [bw, List.mem_cons, List.not_mem_nil, or_false] at hz
 unfold FitI at *
 omega
def bs4 : List ByteArray := [⟨#[]⟩, ⟨#[65]⟩, ⟨#[122, 122]⟩]
theorem bs4_small : ∀ s ∈ bs4, s.size ≤ 3 := by
 intro s hs
 simp only [bs4, List.mem_cons, List.not_mem_nil, or_false] at hs
 rcases hs with rfl | rfl | rfl <;> decide
theorem versP_trim {z t : Int} {l : List V} (h : VersP z l) : VersP z (trimL z l t) := by
 have h1 := trim_ok (t := t) (versB_yes h)
 rw [h1.2.1]
 exact versB_iff.1 h1.2.2.1
def zsW : List Int := [2, 3, 1, 0, 5, 8]
theorem zsW_small : ∀ z ∈ zsW, ∃ j : Nat, z = (j : Int) ∧ j ≤ 8 := by
 intro z hz
 simp only [zsW, List.mem_cons, List.not_mem_nil, or_false] at hz
 exact ⟨z.toNat, by omega, by omega⟩

set_option maxHeartbeats 4000000 in
theorem some_dP (g : Nat) (A : Option Addr) (n c p : Nat) (w : World) (h : Rdr w g A n c p) (hp : p ≤ 980000) :
  Calls Tryz.prog 95 #[.pointer (some ⟨g, 0, none⟩)] w (RetDVP g A n c p 700 w) := by
 have hgl := h.lt
 have hr0 := (((h.alloc (.cells #[.int .i64 0, .slice none 0 0] 34)).alloc (.cells #[] 118)).alloc (.cells #[.int .i64 0, .slice (some ⟨w.heap.size + 1, 0, none⟩) 0 0] 34)).alloc (.cells #[.int .i64 4, .int .i64 7, .int .i64 10, .int .i64 2, .int .i64 0, .int .i64 16] 3)
 have hR0 := (((blkA w #[.int .i64 0, .slice none 0 0] 34).alloc (.cells #[] 118)).alloc (.cells #[.int .i64 0, .slice (some ⟨w.heap.size + 1, 0, none⟩) 0 0] 34)).alloc (.cells #[.int .i64 4, .int .i64 7, .int .i64 10, .int .i64 2, .int .i64 0, .int .i64 16] 3)
 have hX0 : Blk ((((w.alloc (.cells #[.int .i64 0, .slice none 0 0] 34)).alloc (.cells #[] 118)).alloc (.cells #[.int .i64 0, .slice (some ⟨w.heap.size + 1, 0, none⟩) 0 0] 34)).alloc (.cells #[.int .i64 4, .int .i64 7, .int .i64 10, .int .i64 2, .int .i64 0, .int .i64 16] 3)) (w.heap.size + 2) 34 #[.int .i64 0, .slice (some ⟨w.heap.size + 1, 0, none⟩) 0 0] := by
  have := blkA ((w.alloc (.cells #[.int .i64 0, .slice none 0 0] 34)).alloc (.cells #[] 118)) #[.int .i64 0, .slice (some ⟨w.heap.size + 1, 0, none⟩) 0 0] 34
  rw [World.size_alloc, World.size_alloc] at this
  exact this.alloc _
 have hN0 : Blk ((((w.alloc (.cells #[.int .i64 0, .slice none 0 0] 34)).alloc (.cells #[] 118)).alloc (.cells #[.int .i64 0, .slice (some ⟨w.heap.size + 1, 0, none⟩) 0 0] 34)).alloc (.cells #[.int .i64 4, .int .i64 7, .int .i64 10, .int .i64 2, .int .i64 0, .int .i64 16] 3)) (w.heap.size + 3) 3 (zsSome.map (Value.int .i64)).toArray := by
  have := blkA (((w.alloc (.cells #[.int .i64 0, .slice none 0 0] 34)).alloc (.cells #[] 118)).alloc (.cells #[.int .i64 0, .slice (some ⟨w.heap.size + 1, 0, none⟩) 0 0] 34)) #[.int .i64 4, .int .i64 7, .int .i64 10, .int .i64 2, .int .i64 0, .int .i64 16] 3
  rw [World.size_alloc, World.size_alloc, World.size_alloc] at this
  exact this
 have hO0 : OwnG (α := V) ((((w.alloc (.cells #[.int .i64 0, .slice none 0 0] 34)).alloc (.cells #[] 118)).alloc (.cells #[.int .i64 0, .slice (some ⟨w.heap.size + 1, 0, none⟩) 0 0] 34)).alloc (.cells #[.int .i64 4, .int .i64 7, .int .i64 10, .int .i64 2, .int .i64 0, .int .i64 16] 3)) (w.heap.size + 1) (.slice (some ⟨w.heap.size + 1, 0, none⟩) 0 0) [] := by
  have := OwnG.fresh (α := V) (w.alloc (.cells #[.int .i64 0, .slice none 0 0] 34)) (w.heap.size + 1) (by rw [World.size_alloc]; exact Nat.le_refl _)
  rw [World.size_alloc] at this
  exact (this.alloc _).alloc _
 have hg0 : w.grownBy ((((w.alloc (.cells #[.int .i64 0, .slice none 0 0] 34)).alloc (.cells #[] 118)).alloc (.cells #[.int .i64 0, .slice (some ⟨w.heap.size + 1, 0, none⟩) 0 0] 34)).alloc (.cells #[.int .i64 4, .int .i64 7, .int .i64 10, .int .i64 2, .int .i64 0, .int .i64 16] 3)) (some g) := grown_alloc (grown_alloc (grown_alloc (grown_alloc (World.grownBy.refl w _) _) _) _) _
 go_enter Tryz.func95, Tryz.ntmps95
 go_wp2_with fail
 refine (num_d g A n c p (w.heap.size + 3) zsSome _ hr0 (by omega) (by omega) hN0 6 rfl (by omega) (by omega)).mono ?_
 rintro e w1 ⟨z, rfl, hz, hd⟩
 obtain ⟨j0, rfl, hj0⟩ := zsSome_small z hz
 obtain ⟨q0, hq1, hq2, hq⟩ := hd.rdr
 have hO1 := hO0.drawn (by omega) hd.grown
 have hX1 := hX0.drawn (by omega) hd.grown
 have hR1 := hR0.drawn (by omega) hd.grown
 have hgr1 := hg0.trans hd.grown
 clear hO0 hX0 hR0 hN0 hr0 hg0 hd
 obtain ⟨s, HS, hs1⟩ : ∃ s, Hid (w.heap.size + 2 = s) ∧ w.heap.size < s := ⟨_, Lib.hid rfl, by omega⟩
 rw [HS.out] at hX1
 go_wp2
 rw [HS.out]
 go_loopw [4] (fun i W => ∃ (j : Nat) (z : Int) (b : Option Addr) (m d : Nat) (l : List V), j ≤ 16 ∧ i = .int .i64 j ∧ Blk W s 34 #[.int .i64 z, .slice b m d] ∧ OwnG W (w.heap.size + 1) (.slice b m d) l ∧ VersP z l ∧ FitVs l ∧ Blk W w.heap.size 34 #[.int .i64 0, .slice none 0 0] ∧ w.grownBy W (some g) ∧ ∃ q, p ≤ q ∧ q + 40 * j ≤ p + 650 ∧ Rdr W g A n c q) (fun i _ => (intOf i).toNat)
 case atStart => exact ⟨j0, 0, _, _, _, [], hj0, rfl, hX1, hO1, versP_nil, fun r hr => by simp at hr, hR1, hgr1, q0, by omega, by omega, hq⟩
 case round =>
  clear hO1 hX1 hR1 hgr1 hq
  obtain ⟨j, z, b, m, d, l, hj, rfl, hX, hO, hP, hfit, hR, hgr, q, hq1, hq2, hq⟩ := hrel
  have hz0 := hP.now0
  have hz1 := hP.now
  have hl0 := hP.len
  have HP := Lib.hid hP
  have HFIT := Lib.hid hfit
  obtain ⟨hx1, hx2, hx3, hx4⟩ := hO.rd'
  subst hx1
  clear hP hfit
  have x0 : wr.cell? ⟨s, 0, none⟩ = some (.int .i64 z) := by rw [hX.cell]; rfl
  have x1 : wr.cell? ⟨s, 1, none⟩ = some (.slice b l.length d) := by rw [hX.cell]; rfl
  have hwr := hgr.size
  by_cases hj0 : 0 < j
  ·
   have hj1 : (0 : Int) < (j : Int) := by omega
   go_wp2_with fail
   refine (specAt z b d l z wr hx2 (by omega) hx4).mono ?_
   have hal := atL_length l z
   have hfa := fitR_at HFIT.out z
   obtain ⟨al, HAL⟩ : ∃ al, Hid (atL l z = al) := ⟨_, Lib.hid rfl⟩
   rw [HAL.out] at hal hfa
   rw [HAL.out]
   rintro e w2 ⟨v2, rfl, hO2, hb2⟩
   have hX2 := hX.next hb2
   have hR2 := hR.next hb2
   have hOo2 := hO.next hb2
   have hgr2 := grown_call hgr hb2
   have hq2' := hq.next hb2
   obtain ⟨A2, c2, rfl, hy1, hy2, hy3⟩ := hO2.read
   clear hy1 hy2 hy3
   go_wp2_with fail
   refine (writes_d g A n c q A2 c2 al w2 hq2' (by omega) hfa (by omega) wr.heap.size hq.lt hO2).mono ?_
   rintro e w3 ⟨v3, lx, rfl, hO3, hfx, hlx, hd3⟩
   obtain ⟨q3, h31, h32, hq3⟩ := hd3.rdr
   have hne : s ≠ g := by omega
   have hX3 := hX2.drawn hne hd3.grown
   have hR3 := hR2.drawn (by omega) hd3.grown
   have hOo3 := hOo2.drawn (by omega) hd3.grown
   have hgr3 := hgr2.trans hd3.grown
   obtain ⟨B3, e3, rfl, hy1, hy2, hy3⟩ := hO3.read
   cases hok : writesB lx
   ·
    go_wp2_with fail
    refine (specWritesOk B3 e3 lx w3 hfx hy1 hy2 hy3).mono ?_
    rintro e w4 ⟨rfl, hb4⟩
    rw [hok]
    go_wp2
    go_roundw
    case rel => exact ⟨j - 1, z, _, _, _, l, by omega, by go_num, hX3.next hb4, hOo3.next hb4, HP.out, HFIT.out, hR3.next hb4, grown_call hgr3 hb4, q3, by omega, by omega, hq3.next hb4⟩
    case measure => simp [intOf]; omega
   ·
    go_wp2_with fail
    refine (specWritesOk B3 e3 lx w3 hfx hy1 hy2 hy3).mono ?_
    rintro e w4 ⟨rfl, hb4⟩
    rw [hok]
    have hX4 := hX3.next hb4
    have hOo4 := hOo3.next hb4
    have hO4 := hO3.next hb4
    have y0 : w4.cell? ⟨s, 0, none⟩ = some (.int .i64 z) := by rw [hX4.cell]; rfl
    have y1 : w4.cell? ⟨s, 1, none⟩ = some (.slice b l.length d) := by rw [hX4.cell]; rfl
    have HPD := Lib.hid (versP_do (ws := lx) HP.out)
    have HFD := Lib.hid (FitVs.doL (ws := lx) HP.out HFIT.out hfx)
    obtain ⟨RZ, RL, RB, HRR⟩ : ∃ RZ RL RB, Hid (doZ z l lx = RZ ∧ doL z l lx = RL ∧ doB z l lx = RB) := ⟨_, _, _, Lib.hid ⟨rfl, rfl, rfl⟩⟩
    rw [HRR.out.1, HRR.out.2.1] at HPD
    rw [HRR.out.2.1] at HFD
    go_wp2_with fail
    refine (l2Do_c z b d l B3 e3 lx w4 HP.out (writesB_iff.1 hok) HFIT.out hfx hy1 hOo4.rd'.2.2.2 hO4.rd'.2.2.2).mono ?_
    rw [HRR.out.1, HRR.out.2.1, HRR.out.2.2]
    rintro e w5 ⟨v5, rfl, hO5, hb5⟩
    obtain ⟨b5, n5, c5, rfl⟩ := hO5.slice
    have hX5 := hX4.next hb5
    have z0 : w5.cell? ⟨s, 0, none⟩ = some (.int .i64 z) := by rw [hX5.cell]; rfl
    have z1 : w5.cell? ⟨s, 1, none⟩ = some (.slice b l.length d) := by rw [hX5.cell]; rfl
    have f0 := hX5.free 0
    have f1 := hX5.free 1
    have hR5 := (hR3.next hb4).next hb5
    have hgr5 := grown_call (grown_call hgr3 hb4) hb5
    have hq5 := (hq3.next hb4).next hb5
    have hs4 := hgr3.size
    have hs44 := hb4.size
    have hXl := hX4.lt
    have hbS : Below s w5 ((w5.setCell ⟨s, 0, none⟩ (.int .i64 RZ)).setCell ⟨s, 1, none⟩ (.slice b5 n5 c5)) := ((Below.refl s w5).setCell (Nat.le_refl _) _).setCell (Nat.le_refl _) _
    have hX6 : Blk ((w5.setCell ⟨s, 0, none⟩ (.int .i64 RZ)).setCell ⟨s, 1, none⟩ (.slice b5 n5 c5)) s 34 #[.int .i64 RZ, .slice b5 n5 c5] := ((hX5.set_ 0 _).set_ 1 _).cast rfl
    have hne5 : ∀ k, (Value.slice b5 n5 c5).ownBlock = some k → k ≠ s := fun k hk => by have := (hO5.block_lt hk).1; omega
    have hO6 := (hO5.setCell (a := ⟨s, 0, none⟩) hne5 (.int .i64 RZ)).setCell (a := ⟨s, 1, none⟩) hne5 (.slice b5 n5 c5)
    go_wp2
    go_roundw
    case rel => exact ⟨j - 1, RZ, _, _, _, RL, by omega, by go_num, hX6, hO6.low (by omega), HPD.out, HFD.out, (hbS.block _ (by omega)).trans hR5, belowKeeps hgr5 hbS (by omega), q3, by omega, by omega, hq5.belowR hbS (by omega)⟩
    case measure => simp [intOf]; omega
  ·
   have hj1 : decide ((0 : Int) < (j : Int)) = false := decide_eq_false (by omega)
   have hgS : ∀ {W : World} {u v : Value}, w.grownBy W (some g) → w.grownBy ((W.setCell ⟨w.heap.size, 0, none⟩ u).setCell ⟨w.heap.size, 1, none⟩ v) (some g) := fun hg => belowKeeps hg (((Below.refl w.heap.size _).setCell (Nat.le_refl _) _).setCell (Nat.le_refl _) _) (Nat.le_refl _)
   have hqS : ∀ {W : World} {u v : Value} {q : Nat}, Rdr W g A n c q → Rdr ((W.setCell ⟨w.heap.size, 0, none⟩ u).setCell ⟨w.heap.size, 1, none⟩ v) g A n c q := fun hq => hq.belowR (((Below.refl w.heap.size _).setCell (Nat.le_refl _) _).setCell (Nat.le_refl _) _) hgl
   go_wp2_with fail
   refine (pick_d g A n c q 8 wr hq (by omega) (by omega) (by omega)).mono ?_
   rintro e w2 ⟨k2, rfl, hk2, hd2⟩
   obtain ⟨q2, h21, h22, hq2'⟩ := hd2.rdr
   have hX2 := hX.drawn (by omega) hd2.grown
   have hR2 := hR.drawn (by omega) hd2.grown
   have hO2 := hO.drawn (by omega) hd2.grown
   have hgr2 := hgr.trans hd2.grown
   have y0 : w2.cell? ⟨s, 0, none⟩ = some (.int .i64 z) := by rw [hX2.cell]; rfl
   have y1 : w2.cell? ⟨s, 1, none⟩ = some (.slice b l.length d) := by rw [hX2.cell]; rfl
   by_cases hk20 : k2 = 0
   ·
    have hb2 : ((k2 : Int) == 0) = true := by simp [hk20]
    clear hk20
    have HTZ := Lib.hid (trimZ_of HP.out)
    go_wp2
    have hqd : Rdr w2.drew g A n c q2 := hq2'.next (Below.refl _ _).drew
    have hXd : Blk w2.drew s 34 #[.int .i64 z, .slice b l.length d] := hX2
    have hwz : IntKind.i64.wrap (z + 1) = z + 1 := IntWalk.i64_in _ (by omega)
    refine wp_region_held_drew (S := (fun W => W.cell? ⟨s, 0, none⟩ = some (.int .i64 z) ∧ W.cell? ⟨s, 1, none⟩ = some (.slice b l.length d))) (by kernel_rfl) ?_ (fun hHeld => ?_)
    focus ((try dsimp only); (exact ⟨y0, y1⟩))
    refine tk 0 ?_
    refine tk 1 ?_
    refine tk 2 ?_
    refine tk 3 ?_
    refine tk 4 ?_
    (refine rd1 5 (fun K hK => ?_); go_simp; (go_at_call 127; refine (pick_z g A n c q2 (z + 1) _ hqd (by omega) (by omega) (by omega)).mono ?_; rintro e w3 ⟨k3, rfl, hk3, hd3⟩; obtain ⟨q3, h31, h32, hq3⟩ := hd3.rdr; have hX3 := hXd.drawn (by omega) hd3.grown; have hR3 := (show Blk w2.drew w.heap.size 34 #[.int .i64 0, .slice none 0 0] from hR2).drawn (by omega) hd3.grown; have hO3 := (show OwnG w2.drew (w.heap.size + 1) (.slice b l.length d) l from hO2).drawn (by omega) hd3.grown; have hgr3 := (grown_call hgr2 (Below.refl _ _).drew).trans hd3.grown); go_wp2_with fail; refine hK.out _ _ ?_ (fun hHeld => ?_); (focus ((try dsimp only); (exact ⟨by rw [hX3.cell]; rfl, by rw [hX3.cell]; rfl⟩))); clear hK K; (try simp only [Act.put, pa, pb, pc]))
    (refine rd1 6 (fun K hK => ?_); go_simp; (go_at_call 135; refine (specVersTrim z b d l (k3 : Int) _ HFIT.out hx2 hx3 (by omega) hO3.rd'.2.2.2).mono ?_; rintro e w4 ⟨v4, rfl, hO4, hb4⟩; rw [HTZ.out]; have hX4 := hX3.next hb4; have hR4 := hR3.next hb4; have hgr4 := grown_call hgr3 hb4; have hq4 := hq3.next hb4; have hs3 := hgr3.size; obtain ⟨b4, n4, c4, rfl⟩ := hO4.slice; have d0 : w4.cell? ⟨w.heap.size, 0, none⟩ = some (.int .i64 0) := (by rw [hR4.cell]; rfl); have d1 : w4.cell? ⟨w.heap.size, 1, none⟩ = some (.slice none 0 0) := (by rw [hR4.cell]; rfl); have f0 := hR4.free 0; have f1 := hR4.free 1); go_wp2_with fail; refine hK.out _ _ ?_ (fun hHeld => ?_); (focus ((try dsimp only); (exact ⟨by rw [hX4.cell]; rfl, by rw [hX4.cell]; rfl⟩))); clear hK K; (try simp only [Act.put, pa, pb, pc]))
    have hX5 := (hX4.setOther (a := ⟨w.heap.size, 0, none⟩) (show s ≠ w.heap.size from by omega) (.int .i64 z)).setOther (a := ⟨w.heap.size, 1, none⟩) (show s ≠ w.heap.size from by omega) (.slice b4 n4 c4)
    refine rd1 7 (fun K hK => ?_)
    go_simp
    refine hK.out _ _ ?_ (fun hHeld => ?_)
    focus ((try dsimp only); (exact ⟨by rw [hX5.cell]; rfl, by rw [hX5.cell]; rfl⟩))
    clear hK K
    try simp only [Act.put, pa, pb, pc]
    refine wpAnyH_done (by kernel_rfl) ?_ _
    have hRl := hR3.lt
    have htl := trimL_length z l (k3 : Int)
    go_wp2
    refine bodyPost_ret (v := .agg #[.int .i64 z, .slice b4 n4 c4]) (by simp [results, Tryz.results95, go_sem, d0, d1]) rfl ⟨z, .slice b4 n4 c4, trimL z l (k3 : Int), rfl, ?_, HFIT.out.trim, versP_trim HP.out, ?_⟩
    ·
     have hne : ∀ g, (.slice b4 n4 c4 : Value).ownBlock = some g → g ≠ w.heap.size := fun g hg => by have := (hO4.block_lt hg).1; omega
     exact ((hO4.setCell (a := ⟨w.heap.size, 0, none⟩) hne _).setCell (a := ⟨w.heap.size, 1, none⟩) hne _).low (by omega)
    ·
     exact ⟨(hgS hgr4), q3, by omega, by omega, (hqS hq4)⟩
   ·
    have hb2 : ((k2 : Int) == 0) = false := by simp; omega
    have d0 : w2.cell? ⟨w.heap.size, 0, none⟩ = some (.int .i64 0) := by rw [hR2.cell]; rfl
    have d1 : w2.cell? ⟨w.heap.size, 1, none⟩ = some (.slice none 0 0) := by rw [hR2.cell]; rfl
    have f0 := hR2.free 0
    have f1 := hR2.free 1
    go_wp2
    refine bodyPost_ret (v := .agg #[.int .i64 z, .slice b l.length d]) (by simp [results, Tryz.results95, go_sem, d0, d1]) rfl ⟨z, .slice b l.length d, l, rfl, ?_, HFIT.out, HP.out, ?_⟩
    ·
     have hne : ∀ g, (.slice b l.length d : Value).ownBlock = some g → g ≠ w.heap.size := fun g hg => by have := (hO2.block_lt hg).1; omega
     exact ((hO2.setCell (a := ⟨w.heap.size, 0, none⟩) hne _).setCell (a := ⟨w.heap.size, 1, none⟩) hne _).low (by omega)
    ·
     exact ⟨(hgS hgr2), q2, by omega, by omega, (hqS hq2')⟩


set_option maxHeartbeats 4000000 in
theorem bentW_d (g : Nat) (A : Option Addr) (n c p : Nat) (a : Int) (A' : Option Addr) (c' : Nat) (l : List X) (w : World) (h : Rdr w g A n c p) (hp : p ≤ 985000) (hfit : FitXs l) (ha : FitI a) (hl : l.length ≤ 1000) (hr : RdG w w.heap.size A' l) :
  Calls Tryz.prog 125 #[.pointer (some ⟨g, 0, none⟩), .agg #[.int .i64 a, .slice A' l.length c']] w (RetDW g A n c p 5 (l.length + 1) w) := by
 have hgl := h.lt
 have hb0 : Below w.heap.size w ((w.alloc (.cells #[.int .i64 a, .slice A' l.length c'] 38)).alloc (.cells #[.int .i64 0, .slice none 0 0] 38)) := below_alloc (below_alloc (Below.refl _ _) _) _
 have hR0 := blkA (w.alloc (.cells #[.int .i64 a, .slice A' l.length c'] 38)) #[.int .i64 0, .slice none 0 0] 38
 have hB0 := (blkA w #[.int .i64 a, .slice A' l.length c'] 38).alloc (.cells #[.int .i64 0, .slice none 0 0] 38)
 have hsz : ((w.alloc (.cells #[.int .i64 a, .slice A' l.length c'] 38)).alloc (.cells #[.int .i64 0, .slice none 0 0] 38)).heap.size = w.heap.size + 2 := by simp
 simp only [World.size_alloc] at hR0
 obtain ⟨wn, HW⟩ : ∃ wn, Hid ((w.alloc (.cells #[.int .i64 a, .slice A' l.length c'] 38)).alloc (.cells #[.int .i64 0, .slice none 0 0] 38) = wn) := ⟨_, Lib.hid rfl⟩
 rw [HW.out] at hb0 hB0 hR0 hsz
 have q0 : wn.cell? ⟨w.heap.size, 0, none⟩ = some (.int .i64 a) := by rw [hB0.cell]; rfl
 have q1 : wn.cell? ⟨w.heap.size, 1, none⟩ = some (.slice A' l.length c') := by rw [hB0.cell]; rfl
 have hgS : ∀ {W : World} {u v : Value}, w.grownBy W (some g) → w.grownBy ((W.setCell ⟨w.heap.size + 1, 0, none⟩ u).setCell ⟨w.heap.size + 1, 1, none⟩ v) (some g) := fun hg => belowKeeps hg (((Below.refl w.heap.size _).setCell (by show _ ≤ w.heap.size + 1; omega) _).setCell (by show _ ≤ w.heap.size + 1; omega) _) (Nat.le_refl _)
 have hqS : ∀ {W : World} {u v : Value} {q : Nat}, Rdr W g A n c q → Rdr ((W.setCell ⟨w.heap.size + 1, 0, none⟩ u).setCell ⟨w.heap.size + 1, 1, none⟩ v) g A n c q := fun hq => hq.belowR (((Below.refl w.heap.size _).setCell (by show _ ≤ w.heap.size + 1; omega) _).setCell (by show _ ≤ w.heap.size + 1; omega) _) hgl
 go_enter Tryz.func125, Tryz.ntmps125
 go_wp2_with fail
 rw [HW.out]
 refine (l3Copy_c a A' c' l wn (by omega) (hr.next hb0)).mono ?_
 rintro e w1 ⟨v1, rfl, hO1, hb1⟩
 have hw1 := below_next hb0 hb1
 have hs1 := hb1.size
 obtain ⟨b1, c1, rfl, hx1, hx2, hx3⟩ := hO1.read
 clear hx1 hx2 hx3
 have hb2 : Below w1.heap.size w1 (w1.alloc (.cells #[.int .i64 a, .slice b1 l.length c1] 38)) := below_alloc (Below.refl _ _) _
 have hX2 := blkA w1 #[.int .i64 a, .slice b1 l.length c1] 38
 have hR2 := (hR0.next hb1).next hb2
 have hO2 := hO1.next hb2
 have hq2 := (h.next hw1).next hb2
 have hgr2 : w.grownBy (w1.alloc (.cells #[.int .i64 a, .slice b1 l.length c1] 38)) (some g) := grown_call (grown_call (World.grownBy.refl w _) hw1) hb2
 obtain ⟨s, HS, hs⟩ : ∃ s, Hid (w1.heap.size = s) ∧ w.heap.size + 2 ≤ s := ⟨_, Lib.hid rfl, by omega⟩
 rw [HS.out] at hX2
 have HAR : Hid (w.heap.size + 2 ≤ s ∧ wn.heap.size = w.heap.size + 2) := ⟨hs, hsz⟩
 clear q0 q1 hB0
 go_wp2_with fail
 refine (pick_d g A n c p 40 _ hq2 (by omega) (by omega) (by omega)).mono ?_
 rintro e w3 ⟨k3, rfl, hk3, hd3⟩
 rw [HS.out]
 obtain ⟨q3, h31, h32, hq3⟩ := hd3.rdr
 have hX3 := hX2.drawn (by have := HAR.out; omega) hd3.grown
 have hR3 := hR2.drawn (by have := HAR.out; omega) hd3.grown
 have hO3 := hO2.drawn (by have := HAR.out; omega) hd3.grown
 have hgr3 := hgr2.trans hd3.grown
 clear hX2 hR2 hO2 hgr2 hq2 hd3
 have hw3 := hgr3.size
 have hXl3 := hX3.lt
 have x0 : w3.cell? ⟨s, 0, none⟩ = some (.int .i64 a) := by rw [hX3.cell]; rfl
 have x1 : w3.cell? ⟨s, 1, none⟩ = some (.slice b1 l.length c1) := by rw [hX3.cell]; rfl
 have g0 := hX3.free 0
 have g1 := hX3.free 1
 by_cases hk0 : k3 = 0
 ·
  have e0 : ((k3 : Int) == 0) = true := by simp [hk0]
  obtain ⟨a1, hwz, hfa1⟩ := wrap_next ha
  have hbA : Below w3.heap.size w3 (w3.alloc (.cells #[.int .i64 (-1), .int .i64 a1, .int .i64 41, .int .i64 9223372036854775807, .int .i64 0] 3)) := below_alloc (Below.refl _ _) _
  have hX4 := hX3.next hbA
  have hR4 := hR3.next hbA
  have hO4 := hO3.next hbA
  have hgr4 := grown_call hgr3 hbA
  go_wp2_with fail
  refine (num_d g A n c q3 w3.heap.size (bw a1) _ (hq3.next hbA) (by omega) (by omega) (blkA w3 _ _) 5 rfl (by omega) (by omega)).mono ?_
  rintro e w6 ⟨nv, rfl, hnv, hd6⟩
  obtain ⟨q6, h61, h62, hq6⟩ := hd6.rdr
  have hX6 := hX4.drawn (by have := HAR.out; omega) hd6.grown
  have hR6 := hR4.drawn (by have := HAR.out; omega) hd6.grown
  have hO6 := hO4.drawn (by have := HAR.out; omega) hd6.grown
  have hgr6 := hgr4.trans hd6.grown
  have hzz := bw_fit hfa1 nv hnv
  have y0q : w6.cell? ⟨s, 0, none⟩ = some (.int .i64 a) := by rw [hX6.cell]; rfl
  have y1q : w6.cell? ⟨s, 1, none⟩ = some (.slice b1 l.length c1) := by rw [hX6.cell]; rfl
  have ff := hX6.free 0
  have hX7 : Blk (w6.setCell ⟨s, 0, none⟩ (.int .i64 nv)) s 38 #[.int .i64 nv, .slice b1 l.length c1] := (hX6.set_ 0 _).cast rfl
  have hR7 := hR6.setOther (a := ⟨s, 0, none⟩) (show w.heap.size + 1 ≠ s from by omega) (.int .i64 nv)
  have hO7 := hO6.setCell (a := ⟨s, 0, none⟩) (fun g hg e => by obtain ⟨cs, hcs⟩ := hO6.blk_of hg; exact hX6.ne hcs typesWX e.symm) (.int .i64 nv)
  have hbS : Below (w.heap.size + 2) w6 (w6.setCell ⟨s, 0, none⟩ (.int .i64 nv)) := (Below.refl _ _).setCell (show w.heap.size + 2 ≤ s from hs) _
  have hgr7 := belowKeeps hgr6 hbS (by omega)
  have hq7 := hq6.belowR hbS (by omega)
  have y0 : (w6.setCell ⟨s, 0, none⟩ (.int .i64 nv)).cell? ⟨s, 0, none⟩ = some (.int .i64 nv) := by rw [hX7.cell]; rfl
  have y1 : (w6.setCell ⟨s, 0, none⟩ (.int .i64 nv)).cell? ⟨s, 1, none⟩ = some (.slice b1 l.length c1) := by rw [hX7.cell]; rfl
  have d0 : (w6.setCell ⟨s, 0, none⟩ (.int .i64 nv)).cell? ⟨w.heap.size + 1, 0, none⟩ = some (.int .i64 0) := by rw [hR7.cell]; rfl
  have d1 : (w6.setCell ⟨s, 0, none⟩ (.int .i64 nv)).cell? ⟨w.heap.size + 1, 1, none⟩ = some (.slice none 0 0) := by rw [hR7.cell]; rfl
  have f0 := hR7.free 0
  have f1 := hR7.free 1
  go_wp2
  refine bodyPost_ret (v := .agg #[.int .i64 nv, .slice b1 l.length c1]) (by simp [results, Tryz.results125, go_sem, d0, d1]) rfl ⟨nv, .slice b1 l.length c1, l, rfl, ?_, hfit, hzz, by omega, ?_⟩
  ·
   have hne : ∀ g, (.slice b1 l.length c1 : Value).ownBlock = some g → g ≠ w.heap.size + 1 := fun g hg => by have := (hO7.block_lt hg).1; have := HAR.out; omega
   exact ((hO7.setCell (a := ⟨w.heap.size + 1, 0, none⟩) hne _).setCell (a := ⟨w.heap.size + 1, 1, none⟩) hne _).low (by have := HAR.out; omega)
  ·
   exact ⟨hgS hgr7, q6, by omega, by omega, hqS hq7⟩
 by_cases hk1 : k3 = 1
 ·
  have e0 : ((k3 : Int) == 0) = false := by simp; omega
  have e1 : ((k3 : Int) == 1) = true := by simp [hk1]
  have hfit2 : FitXs (l ++ [(⟨⟨#[97]⟩, 0, false⟩ : X)]) := fun r hr => by rcases List.mem_append.1 hr with hr | hr; exact hfit r hr; rw [List.mem_singleton] at hr; subst hr; exact ⟨by decide, by decide, by decide⟩
  go_wp2_with (at_builtin; refine wpList_appG (α := X) (w3.alloc (.cells #[.string ⟨#[97]⟩, .int .i64 0, .bool false] 52)) rfl _ _ 36 36 52 rfl Tryz.underlying36 Tryz.underlying36 wn.heap.size _ l rfl (hO3.alloc _) (some ⟨w3.heap.size, 0, none⟩) 1 _ 1 [(⟨⟨#[97]⟩, 0, false⟩ : X)] rfl rfl (rdOneX w3 (⟨⟨#[97]⟩, 0, false⟩ : X) 52) (by simp; omega) (by have := HAR.out; simp; omega) ?_; intro v5 w5 hO5 hgw hloc; have hX5 := (hX3.alloc (.cells #[.string ⟨#[97]⟩, .int .i64 0, .bool false] 52)).grown hgw (fun e => by obtain ⟨cs, hcs⟩ := hO3.blk_of e.symm; exact hX3.ne hcs typesWX rfl); have hR5 := (hR3.alloc (.cells #[.string ⟨#[97]⟩, .int .i64 0, .bool false] 52)).grown hgw (fun e => by have := (hO3.block_lt e.symm).1; have := HAR.out; omega); have hbg : Below w.heap.size (w3.alloc (.cells #[.string ⟨#[97]⟩, .int .i64 0, .bool false] 52)) w5 := (Below.refl _ _).grown hgw (by rw [World.size_alloc]; omega) (fun k e => by have := (hO3.block_lt e).1; have := HAR.out; omega); have hgr5 := belowKeeps (grown_alloc hgr3 (.cells #[.string ⟨#[97]⟩, .int .i64 0, .bool false] 52)) hbg (Nat.le_refl _); have hq5 := (hq3.alloc (.cells #[.string ⟨#[97]⟩, .int .i64 0, .bool false] 52)).belowR hbg hgl; obtain ⟨bv, nv, cv, rfl⟩ := hO5.slice; have z0 : w5.cell? ⟨s, 0, none⟩ = some (.int .i64 a) := (by rw [hX5.cell]; rfl); have z1 : w5.cell? ⟨s, 1, none⟩ = some (.slice b1 l.length c1) := (by rw [hX5.cell]; rfl); have zf := hX5.free 1; have hX6 : Blk (w5.setCell ⟨s, 1, none⟩ (.slice bv nv cv)) s 38 #[.int .i64 a, .slice bv nv cv] := (hX5.set_ 1 _).cast rfl; have hR6 := hR5.setOther (a := ⟨s, 1, none⟩) (show w.heap.size + 1 ≠ s from by omega) (.slice bv nv cv); have hO6 := hO5.setCell (a := ⟨s, 1, none⟩) (fun g hg e => by obtain ⟨cs, hcs⟩ := hO5.blk_of hg; exact hX5.ne hcs typesWX e.symm) (.slice bv nv cv); have hbS : Below (w.heap.size + 2) w5 (w5.setCell ⟨s, 1, none⟩ (.slice bv nv cv)) := (Below.refl _ _).setCell (show w.heap.size + 2 ≤ s from hs) _; have hgr6 := belowKeeps hgr5 hbS (by omega); have hq6 := hq5.belowR hbS (by omega); have y0 : (w5.setCell ⟨s, 1, none⟩ (.slice bv nv cv)).cell? ⟨s, 0, none⟩ = some (.int .i64 a) := (by rw [hX6.cell]; rfl); have y1 : (w5.setCell ⟨s, 1, none⟩ (.slice bv nv cv)).cell? ⟨s, 1, none⟩ = some (.slice bv nv cv) := (by rw [hX6.cell]; rfl); have d0 : (w5.setCell ⟨s, 1, none⟩ (.slice bv nv cv)).cell? ⟨w.heap.size + 1, 0, none⟩ = some (.int .i64 0) := (by rw [hR6.cell]; rfl); have d1 : (w5.setCell ⟨s, 1, none⟩ (.slice bv nv cv)).cell? ⟨w.heap.size + 1, 1, none⟩ = some (.slice none 0 0) := (by rw [hR6.cell]; rfl); have f0 := hR6.free 0; have f1 := hR6.free 1)
  refine bodyPost_ret (v := .agg #[.int .i64 a, .slice bv nv cv]) (by simp [results, Tryz.results125, go_sem, d0, d1]) rfl ⟨a, .slice bv nv cv, (l ++ [(⟨⟨#[97]⟩, 0, false⟩ : X)]), rfl, ?_, hfit2, ha, by simp, ?_⟩
  ·
   have hne : ∀ g, (.slice bv nv cv : Value).ownBlock = some g → g ≠ w.heap.size + 1 := fun g hg => by have := (hO6.block_lt hg).1; have := HAR.out; omega
   exact ((hO6.setCell (a := ⟨w.heap.size + 1, 0, none⟩) hne _).setCell (a := ⟨w.heap.size + 1, 1, none⟩) hne _).low (by have := HAR.out; omega)
  ·
   exact ⟨hgS hgr6, q3, by omega, by omega, hqS hq6⟩
 by_cases hk2 : k3 = 2
 ·
  have e0 : ((k3 : Int) == 0) = false := by simp; omega
  have e1 : ((k3 : Int) == 1) = false := by simp; omega
  have e2 : ((k3 : Int) == 2) = true := by simp [hk2]
  have hfit2 : FitXs (l ++ [(⟨⟨#[122, 122]⟩, 1, true⟩ : X)]) := fun r hr => by rcases List.mem_append.1 hr with hr | hr; exact hfit r hr; rw [List.mem_singleton] at hr; subst hr; exact ⟨by decide, by decide, by decide⟩
  go_wp2_with (at_builtin; refine wpList_appG (α := X) (w3.alloc (.cells #[.string ⟨#[122, 122]⟩, .int .i64 1, .bool true] 52)) rfl _ _ 36 36 52 rfl Tryz.underlying36 Tryz.underlying36 wn.heap.size _ l rfl (hO3.alloc _) (some ⟨w3.heap.size, 0, none⟩) 1 _ 1 [(⟨⟨#[122, 122]⟩, 1, true⟩ : X)] rfl rfl (rdOneX w3 (⟨⟨#[122, 122]⟩, 1, true⟩ : X) 52) (by simp; omega) (by have := HAR.out; simp; omega) ?_; intro v5 w5 hO5 hgw hloc; have hX5 := (hX3.alloc (.cells #[.string ⟨#[122, 122]⟩, .int .i64 1, .bool true] 52)).grown hgw (fun e => by obtain ⟨cs, hcs⟩ := hO3.blk_of e.symm; exact hX3.ne hcs typesWX rfl); have hR5 := (hR3.alloc (.cells #[.string ⟨#[122, 122]⟩, .int .i64 1, .bool true] 52)).grown hgw (fun e => by have := (hO3.block_lt e.symm).1; have := HAR.out; omega); have hbg : Below w.heap.size (w3.alloc (.cells #[.string ⟨#[122, 122]⟩, .int .i64 1, .bool true] 52)) w5 := (Below.refl _ _).grown hgw (by rw [World.size_alloc]; omega) (fun k e => by have := (hO3.block_lt e).1; have := HAR.out; omega); have hgr5 := belowKeeps (grown_alloc hgr3 (.cells #[.string ⟨#[122, 122]⟩, .int .i64 1, .bool true] 52)) hbg (Nat.le_refl _); have hq5 := (hq3.alloc (.cells #[.string ⟨#[122, 122]⟩, .int .i64 1, .bool true] 52)).belowR hbg hgl; obtain ⟨bv, nv, cv, rfl⟩ := hO5.slice; have z0 : w5.cell? ⟨s, 0, none⟩ = some (.int .i64 a) := (by rw [hX5.cell]; rfl); have z1 : w5.cell? ⟨s, 1, none⟩ = some (.slice b1 l.length c1) := (by rw [hX5.cell]; rfl); have zf := hX5.free 1; have hX6 : Blk (w5.setCell ⟨s, 1, none⟩ (.slice bv nv cv)) s 38 #[.int .i64 a, .slice bv nv cv] := (hX5.set_ 1 _).cast rfl; have hR6 := hR5.setOther (a := ⟨s, 1, none⟩) (show w.heap.size + 1 ≠ s from by omega) (.slice bv nv cv); have hO6 := hO5.setCell (a := ⟨s, 1, none⟩) (fun g hg e => by obtain ⟨cs, hcs⟩ := hO5.blk_of hg; exact hX5.ne hcs typesWX e.symm) (.slice bv nv cv); have hbS : Below (w.heap.size + 2) w5 (w5.setCell ⟨s, 1, none⟩ (.slice bv nv cv)) := (Below.refl _ _).setCell (show w.heap.size + 2 ≤ s from hs) _; have hgr6 := belowKeeps hgr5 hbS (by omega); have hq6 := hq5.belowR hbS (by omega); have y0 : (w5.setCell ⟨s, 1, none⟩ (.slice bv nv cv)).cell? ⟨s, 0, none⟩ = some (.int .i64 a) := (by rw [hX6.cell]; rfl); have y1 : (w5.setCell ⟨s, 1, none⟩ (.slice bv nv cv)).cell? ⟨s, 1, none⟩ = some (.slice bv nv cv) := (by rw [hX6.cell]; rfl); have d0 : (w5.setCell ⟨s, 1, none⟩ (.slice bv nv cv)).cell? ⟨w.heap.size + 1, 0, none⟩ = some (.int .i64 0) := (by rw [hR6.cell]; rfl); have d1 : (w5.setCell ⟨s, 1, none⟩ (.slice bv nv cv)).cell? ⟨w.heap.size + 1, 1, none⟩ = some (.slice none 0 0) := (by rw [hR6.cell]; rfl); have f0 := hR6.free 0; have f1 := hR6.free 1)
  refine bodyPost_ret (v := .agg #[.int .i64 a, .slice bv nv cv]) (by simp [results, Tryz.results125, go_sem, d0, d1]) rfl ⟨a, .slice bv nv cv, (l ++ [(⟨⟨#[122, 122]⟩, 1, true⟩ : X)]), rfl, ?_, hfit2, ha, by simp, ?_⟩
  ·
   have hne : ∀ g, (.slice bv nv cv : Value).ownBlock = some g → g ≠ w.heap.size + 1 := fun g hg => by have := (hO6.block_lt hg).1; have := HAR.out; omega
   exact ((hO6.setCell (a := ⟨w.heap.size + 1, 0, none⟩) hne _).setCell (a := ⟨w.heap.size + 1, 1, none⟩) hne _).low (by have := HAR.out; omega)
  ·
   exact ⟨hgS hgr6, q3, by omega, by omega, hqS hq6⟩
 by_cases hk3q : k3 = 3
 ·
  by_cases hl0 : 0 < l.length
  ·
   have e0 : ((k3 : Int) == 0) = false := by simp; omega
   have e1 : ((k3 : Int) == 1) = false := by simp; omega
   have e2 : ((k3 : Int) == 2) = false := by simp; omega
   have e3 : ((k3 : Int) == 3) = true := by simp [hk3q]
   have hp1 : (0 : Int) < (l.length : Int) := by omega
   have hp2 : decide ((0 : Int) < (l.length : Int)) = true := decide_eq_true hp1
   have hkl : l[0]? = some l[0] := List.getElem?_eq_getElem hl0
   have hfk := hfit _ (List.getElem_mem hl0)
   obtain ⟨gl, o, rfl, HO0, hgb, hglt⟩ := hO3.addr (by omega)
   have HSG : Hid (s ≠ gl) := fun e => by obtain ⟨cs, hcs⟩ := hO3.blk_of (g := gl) rfl; exact hX3.ne hcs typesWX e
   have hgb2 : w.heap.size + 2 ≤ gl := by omega
   have hbA : Below w3.heap.size w3 (w3.alloc (.cells #[.string ⟨#[]⟩, .string ⟨#[65]⟩, .string ⟨#[122, 122]⟩] 9)).drew := (below_alloc (Below.refl _ _) _).drew
   have hX5 := hX3.next hbA
   have hR5 := hR3.next hbA
   have hO5 := hO3.next hbA
   have hgr5 := grown_call hgr3 hbA
   have hq5 := hq3.next hbA
   have hN5 : Blk (w3.alloc (.cells #[.string ⟨#[]⟩, .string ⟨#[65]⟩, .string ⟨#[122, 122]⟩] 9)).drew w3.heap.size 9 #[.string ⟨#[]⟩, .string ⟨#[65]⟩, .string ⟨#[122, 122]⟩] := blkA w3 _ _
   have hX3d : Blk w3.drew s 38 #[.int .i64 a, .slice (some ⟨gl, o, none⟩) l.length c1] := hX3
   go_wp2
   refine wp_region_held_drew (S := (fun W => W.cell? ⟨s, 0, none⟩ = some (.int .i64 a) ∧ W.cell? ⟨s, 1, none⟩ = some (.slice (some ⟨gl, o, none⟩) l.length c1))) (by kernel_rfl) ?_ (fun hHeld => ?_)
   focus ((try dsimp only); (exact ⟨by rw [hX3d.cell]; rfl, by rw [hX3d.cell]; rfl⟩))
   refine tk 0 ?_
   refine tk 1 ?_
   refine tk 2 ?_
   refine rd1 3 (fun K hK => ?_)
   go_simp
   refine hK.out _ _ ?_ (fun hHeld => ?_)
   focus ((try dsimp only); (exact ⟨by rw [hX5.cell]; rfl, by rw [hX5.cell]; rfl⟩))
   clear hK K
   try simp only [Act.put, pa, pb, pc]
   (refine rd1 4 (fun K hK => ?_); go_simp; (go_at_call 134; refine (of_d g A n c q3 w3.heap.size bs4 _ hq5 (by omega) (by omega) hN5 3 rfl (by omega) (by omega)).mono ?_; rintro e w6 ⟨nv, rfl, hnv, hd6⟩; obtain ⟨q6, h61, h62, hq6⟩ := hd6.rdr; have hX6 := hX5.drawn (by have := HAR.out; omega) hd6.grown; have hR6 := hR5.drawn (by have := HAR.out; omega) hd6.grown; have hO6 := hO5.drawn (by have := HAR.out; omega) hd6.grown; have hgr6 := hgr5.trans hd6.grown; have hOs := hO6.setAt HO0.out (i := 0) (r := l[0]) (r' := (⟨nv, l[0].n, l[0].g⟩ : X)) (j := 0) (u := .string nv) hkl (by decide) rfl; simp only [Nat.zero_mul, Nat.add_zero] at hOs; have hfz : w6.frozen? ⟨gl, o, none⟩ = false := (by obtain ⟨cs, hcs⟩ := hO6.blk_of (g := gl) rfl; exact hcs.free _); have u0 : w6.cell? ⟨gl, o, none⟩ = some (.string l[0].k) := (by have := (hO6.rd'.2.2.2.fixX rfl hl0).1; simpa using this)); go_wp2_with fail; refine hK.out _ _ ?_ (fun hHeld => ?_); (focus ((try dsimp only); (exact ⟨by rw [hX6.cell]; rfl, by rw [hX6.cell]; rfl⟩))); clear hK K; (try simp only [Act.put, pa, pb, pc]))
   have hX7 := hX6.setOther (a := ⟨gl, o, none⟩) (show s ≠ gl from HSG.out) (.string nv)
   have hR7 := hR6.setOther (a := ⟨gl, o, none⟩) (show w.heap.size + 1 ≠ gl from by omega) (.string nv)
   have hbS : Below (w.heap.size + 2) w6 (w6.setCell ⟨gl, o, none⟩ (.string nv)) := (Below.refl _ _).setCell (show w.heap.size + 2 ≤ gl from hgb2) _
   have hgr7 := belowKeeps hgr6 hbS (by omega)
   have hq7 := hq6.belowR hbS (by omega)
   have hsn := bs4_small nv hnv
   have hfit2 : FitXs (l.set 0 (⟨nv, l[0].n, l[0].g⟩ : X)) := fun x hx => by rcases List.mem_or_eq_of_mem_set hx with hx | rfl; exact hfit x hx; exact ⟨by show nv.size ≤ maxLen; unfold maxLen; omega, hfk.2⟩
   refine tk 5 ?_
   refine tk 6 ?_
   refine rd1 7 (fun K hK => ?_)
   go_simp
   refine hK.out _ _ ?_ (fun hHeld => ?_)
   focus ((try dsimp only); (exact ⟨by rw [hX7.cell]; rfl, by rw [hX7.cell]; rfl⟩))
   clear hK K
   try simp only [Act.put, pa, pb, pc]
   refine wpAnyH_done (by kernel_rfl) ?_ _
   have y0 : (w6.setCell ⟨gl, o, none⟩ (.string nv)).cell? ⟨s, 0, none⟩ = some (.int .i64 a) := by rw [hX7.cell]; rfl
   have y1 : (w6.setCell ⟨gl, o, none⟩ (.string nv)).cell? ⟨s, 1, none⟩ = some (.slice (some ⟨gl, o, none⟩) l.length c1) := by rw [hX7.cell]; rfl
   have d0 : (w6.setCell ⟨gl, o, none⟩ (.string nv)).cell? ⟨w.heap.size + 1, 0, none⟩ = some (.int .i64 0) := by rw [hR7.cell]; rfl
   have d1 : (w6.setCell ⟨gl, o, none⟩ (.string nv)).cell? ⟨w.heap.size + 1, 1, none⟩ = some (.slice none 0 0) := by rw [hR7.cell]; rfl
   have f0 := hR7.free 0
   have f1 := hR7.free 1
   go_wp2
   refine bodyPost_ret (v := .agg #[.int .i64 a, .slice (some ⟨gl, o, none⟩) l.length c1]) (by simp [results, Tryz.results125, go_sem, d0, d1]) rfl ⟨a, .slice (some ⟨gl, o, none⟩) l.length c1, (l.set 0 (⟨nv, l[0].n, l[0].g⟩ : X)), rfl, ?_, hfit2, ha, by rw [List.length_set]; omega, ?_⟩
   ·
    have hne : ∀ g, (.slice (some ⟨gl, o, none⟩) l.length c1 : Value).ownBlock = some g → g ≠ w.heap.size + 1 := fun g hg => by have := (hOs.block_lt hg).1; have := HAR.out; omega
    exact ((hOs.setCell (a := ⟨w.heap.size + 1, 0, none⟩) hne _).setCell (a := ⟨w.heap.size + 1, 1, none⟩) hne _).low (by have := HAR.out; omega)
   ·
    exact ⟨hgS hgr7, q6, by omega, by omega, hqS hq7⟩
  ·
   have e0 : ((k3 : Int) == 0) = false := by simp; omega
   have e1 : ((k3 : Int) == 1) = false := by simp; omega
   have e2 : ((k3 : Int) == 2) = false := by simp; omega
   have e3 : ((k3 : Int) == 3) = true := by simp [hk3q]
   have hp2 : decide ((0 : Int) < (l.length : Int)) = false := decide_eq_false (by omega)
   have y0 : w3.cell? ⟨s, 0, none⟩ = some (.int .i64 a) := by rw [hX3.cell]; rfl
   have y1 : w3.cell? ⟨s, 1, none⟩ = some (.slice b1 l.length c1) := by rw [hX3.cell]; rfl
   have d0 : w3.cell? ⟨w.heap.size + 1, 0, none⟩ = some (.int .i64 0) := by rw [hR3.cell]; rfl
   have d1 : w3.cell? ⟨w.heap.size + 1, 1, none⟩ = some (.slice none 0 0) := by rw [hR3.cell]; rfl
   have f0 := hR3.free 0
   have f1 := hR3.free 1
   go_wp2
   refine bodyPost_ret (v := .agg #[.int .i64 a, .slice b1 l.length c1]) (by simp [results, Tryz.results125, go_sem, d0, d1]) rfl ⟨a, .slice b1 l.length c1, l, rfl, ?_, hfit, ha, by omega, ?_⟩
   ·
    have hne : ∀ g, (.slice b1 l.length c1 : Value).ownBlock = some g → g ≠ w.heap.size + 1 := fun g hg => by have := (hO3.block_lt hg).1; have := HAR.out; omega
    exact ((hO3.setCell (a := ⟨w.heap.size + 1, 0, none⟩) hne _).setCell (a := ⟨w.heap.size + 1, 1, none⟩) hne _).low (by have := HAR.out; omega)
   ·
    exact ⟨hgS hgr3, q3, by omega, by omega, hqS hq3⟩
 have e0 : ((k3 : Int) == 0) = false := by simp; omega
 have e1 : ((k3 : Int) == 1) = false := by simp; omega
 have e2 : ((k3 : Int) == 2) = false := by simp; omega
 have e3 : ((k3 : Int) == 3) = false := by simp; omega
 have y0 : w3.cell? ⟨s, 0, none⟩ = some (.int .i64 a) := by rw [hX3.cell]; rfl
 have y1 : w3.cell? ⟨s, 1, none⟩ = some (.slice b1 l.length c1) := by rw [hX3.cell]; rfl
 have d0 : w3.cell? ⟨w.heap.size + 1, 0, none⟩ = some (.int .i64 0) := by rw [hR3.cell]; rfl
 have d1 : w3.cell? ⟨w.heap.size + 1, 1, none⟩ = some (.slice none 0 0) := by rw [hR3.cell]; rfl
 have f0 := hR3.free 0
 have f1 := hR3.free 1
 go_wp2
 refine bodyPost_ret (v := .agg #[.int .i64 a, .slice b1 l.length c1]) (by simp [results, Tryz.results125, go_sem, d0, d1]) rfl ⟨a, .slice b1 l.length c1, l, rfl, ?_, hfit, ha, by omega, ?_⟩
 ·
  have hne : ∀ g, (.slice b1 l.length c1 : Value).ownBlock = some g → g ≠ w.heap.size + 1 := fun g hg => by have := (hO3.block_lt hg).1; have := HAR.out; omega
  exact ((hO3.setCell (a := ⟨w.heap.size + 1, 0, none⟩) hne _).setCell (a := ⟨w.heap.size + 1, 1, none⟩) hne _).low (by have := HAR.out; omega)
 ·
  exact ⟨hgS hgr3, q3, by omega, by omega, hqS hq3⟩

set_option maxHeartbeats 8000000 in
theorem someW_d (g : Nat) (A : Option Addr) (n c p : Nat) (z : Int) (A' : Option Addr) (c' : Nat) (l : List V) (w : World) (h : Rdr w g A n c p) (hp : p ≤ 985000) (hP : VersP z l) (hfit : FitVs l) (base : Nat) (hgb : g < base) (hown : OwnG w base (.slice A' l.length c') l) :
  Calls Tryz.prog 126 #[.pointer (some ⟨g, 0, none⟩), .agg #[.int .i64 z, .slice A' l.length c']] w (RetDW g A n c p 60 6 w) := by
 have hgl := h.lt
 have hz0 := hP.now0
 have hz1 := hP.now
 have hl0 := hP.len
 have HP := Lib.hid hP
 clear hP
 have hb0 : Below w.heap.size w ((w.alloc (.cells #[.int .i64 z, .slice A' l.length c'] 34)).alloc (.cells #[.int .i64 0, .slice none 0 0] 38)) := below_alloc (below_alloc (Below.refl _ _) _) _
 have hR0 := blkA (w.alloc (.cells #[.int .i64 z, .slice A' l.length c'] 34)) #[.int .i64 0, .slice none 0 0] 38
 have hV0 := (blkA w #[.int .i64 z, .slice A' l.length c'] 34).alloc (.cells #[.int .i64 0, .slice none 0 0] 38)
 have hsz : ((w.alloc (.cells #[.int .i64 z, .slice A' l.length c'] 34)).alloc (.cells #[.int .i64 0, .slice none 0 0] 38)).heap.size = w.heap.size + 2 := by simp
 simp only [World.size_alloc] at hR0
 obtain ⟨wn, HW⟩ : ∃ wn, Hid ((w.alloc (.cells #[.int .i64 z, .slice A' l.length c'] 34)).alloc (.cells #[.int .i64 0, .slice none 0 0] 38) = wn) := ⟨_, Lib.hid rfl⟩
 rw [HW.out] at hb0 hV0 hR0 hsz
 have hO0 := hown.next hb0
 have q0 : wn.cell? ⟨w.heap.size, 0, none⟩ = some (.int .i64 z) := by rw [hV0.cell]; rfl
 have q1 : wn.cell? ⟨w.heap.size, 1, none⟩ = some (.slice A' l.length c') := by rw [hV0.cell]; rfl
 have hgS : ∀ {W : World} {u v : Value}, w.grownBy W (some g) → w.grownBy ((W.setCell ⟨w.heap.size + 1, 0, none⟩ u).setCell ⟨w.heap.size + 1, 1, none⟩ v) (some g) := fun hg => belowKeeps hg (((Below.refl w.heap.size _).setCell (by show _ ≤ w.heap.size + 1; omega) _).setCell (by show _ ≤ w.heap.size + 1; omega) _) (Nat.le_refl _)
 have hqS : ∀ {W : World} {u v : Value} {q : Nat}, Rdr W g A n c q → Rdr ((W.setCell ⟨w.heap.size + 1, 0, none⟩ u).setCell ⟨w.heap.size + 1, 1, none⟩ v) g A n c q := fun hq => hq.belowR (((Below.refl w.heap.size _).setCell (by show _ ≤ w.heap.size + 1; omega) _).setCell (by show _ ≤ w.heap.size + 1; omega) _) hgl
 go_enter Tryz.func126, Tryz.ntmps126
 go_wp2_with fail
 rw [HW.out]
 refine (specWorkNewO hO0 hfit (by omega)).mono ?_
 rw [show newA z l = z from by unfold newA; rw [versB_yes HP.out]; rfl]
 rintro e w1 ⟨v1, rfl, hN1, hb1⟩
 have hw1 := below_next hb0 hb1
 have hs1 := hb1.size
 obtain ⟨b1, n1, c1, rfl⟩ := hN1.slice
 have hb2 : Below w1.heap.size w1 (w1.alloc (.cells #[.int .i64 z, .slice b1 n1 c1] 38)) := below_alloc (Below.refl _ _) _
 have hX2 := blkA w1 #[.int .i64 z, .slice b1 n1 c1] 38
 have hV2 := (hV0.next hb1).next hb2
 have hR2 := (hR0.next hb1).next hb2
 have hN2 := hN1.next hb2
 have hO2 := (hO0.next hb1).next hb2
 have hq2 := (h.next hw1).next hb2
 have hgr2 : w.grownBy (w1.alloc (.cells #[.int .i64 z, .slice b1 n1 c1] 38)) (some g) := grown_call (grown_call (World.grownBy.refl w _) hw1) hb2
 obtain ⟨s, HS, hs⟩ : ∃ s, Hid (w1.heap.size = s) ∧ w.heap.size + 2 ≤ s := ⟨_, Lib.hid rfl, by omega⟩
 rw [HS.out] at hX2
 have HAR : Hid (w.heap.size + 2 ≤ s ∧ wn.heap.size = w.heap.size + 2) := ⟨hs, hsz⟩
 have hN2 := hN2.low (show w.heap.size + 2 ≤ wn.heap.size from by omega)
 clear q0 q1
 go_wp2_with fail
 refine (pick_d g A n c p 2 _ hq2 (by omega) (by omega) (by omega)).mono ?_
 rintro e w3 ⟨k3, rfl, hk3, hd3⟩
 rw [HS.out]
 obtain ⟨q3, h31, h32, hq3⟩ := hd3.rdr
 have hX3 := hX2.drawn (by omega) hd3.grown
 have hV3 := hV2.drawn (by omega) hd3.grown
 have hR3 := hR2.drawn (by omega) hd3.grown
 have hN3 := hN2.drawn (show g < w.heap.size + 2 from by omega) hd3.grown
 have hO3 := hO2.drawn hgb hd3.grown
 have hgr3 := hgr2.trans hd3.grown
 clear hX2 hV2 hR2 hN2 hO2 hgr2 hq2 hd3
 by_cases hk0 : k3 = 0
 ·
  have e0 : ((k3 : Int) == 0) = true := by simp [hk0]
  have hwz : IntKind.i64.wrap (z + 1) = z + 1 := IntWalk.i64_in _ (by omega)
  have y0 : w3.cell? ⟨w.heap.size, 0, none⟩ = some (.int .i64 z) := by rw [hV3.cell]; rfl
  go_wp2_with fail
  refine (pick_z g A n c q3 (z + 1) w3 hq3 (by omega) (by omega) (by omega)).mono ?_
  rintro e w4 ⟨k4, rfl, hk4, hd4⟩
  obtain ⟨q4, h41, h42, hq4⟩ := hd4.rdr
  have hX4 := hX3.drawn (by omega) hd4.grown
  have hV4 := hV3.drawn (by omega) hd4.grown
  have hR4 := hR3.drawn (by omega) hd4.grown
  have hN4 := hN3.drawn (show g < w.heap.size + 2 from by omega) hd4.grown
  have hO4 := hO3.drawn hgb hd4.grown
  have hgr4 := hgr3.trans hd4.grown
  clear y0
  have x0 : w4.cell? ⟨s, 0, none⟩ = some (.int .i64 z) := by rw [hX4.cell]; rfl
  have xf := hX4.free 0
  have hX5 : Blk (w4.setCell ⟨s, 0, none⟩ (.int .i64 (k4 : Int))) s 38 #[.int .i64 (k4 : Int), .slice b1 n1 c1] := (hX4.set_ 0 _).cast rfl
  have hV5 := hV4.setOther (a := ⟨s, 0, none⟩) (show w.heap.size ≠ s from by omega) (.int .i64 (k4 : Int))
  have hR5 := hR4.setOther (a := ⟨s, 0, none⟩) (show w.heap.size + 1 ≠ s from by omega) (.int .i64 (k4 : Int))
  have hN5 := hN4.setCell (a := ⟨s, 0, none⟩) (fun k hk e => by obtain ⟨cs, hcs⟩ := hN4.blk_of hk; exact hX4.ne hcs typesWX e.symm) (.int .i64 (k4 : Int))
  have hO5 := hO4.setCell (a := ⟨s, 0, none⟩) (fun k hk e => by obtain ⟨cs, hcs⟩ := hO4.blk_of hk; exact hX4.ne hcs typesWV e.symm) (.int .i64 (k4 : Int))
  have hbS : Below w.heap.size w4 (w4.setCell ⟨s, 0, none⟩ (.int .i64 (k4 : Int))) := (Below.refl _ _).setCell (show w.heap.size ≤ s from by omega) _
  have hgr5 := belowKeeps hgr4 hbS (Nat.le_refl _)
  have hq5 := hq4.belowR hbS hgl
  have hb6 : Below (w4.setCell ⟨s, 0, none⟩ (.int .i64 (k4 : Int))).heap.size (w4.setCell ⟨s, 0, none⟩ (.int .i64 (k4 : Int))) ((w4.setCell ⟨s, 0, none⟩ (.int .i64 (k4 : Int))).alloc (.cells #[.int .i64 2, .int .i64 3, .int .i64 1, .int .i64 0, .int .i64 5, .int .i64 8] 3)) := below_alloc (Below.refl _ _) _
  have hX7 := hX5.next hb6
  have hV7 := hV5.next hb6
  have hR7 := hR5.next hb6
  have hN7 := hN5.next hb6
  have hO7 := hO5.next hb6
  have hq7 := hq5.next hb6
  have hgr7 := grown_call hgr5 hb6
  have hM7 : Blk ((w4.setCell ⟨s, 0, none⟩ (.int .i64 (k4 : Int))).alloc (.cells #[.int .i64 2, .int .i64 3, .int .i64 1, .int .i64 0, .int .i64 5, .int .i64 8] 3)) w4.heap.size 3 (zsW.map (Value.int .i64)).toArray := blkAt _ _ (by simp [World.setCell])
  have hgl4 := hq4.lt
  go_wp2_with fail
  refine (num_d g A n c q4 w4.heap.size zsW _ hq7 (by omega) (by omega) hM7 6 rfl (by omega) (by omega)).mono ?_
  rintro e w6 ⟨zz, rfl, hzz, hd6⟩
  obtain ⟨j0, rfl, hj0⟩ := zsW_small zz hzz
  obtain ⟨q6, h61, h62, hq6⟩ := hd6.rdr
  have hX6 := hX7.drawn (by omega) hd6.grown
  have hV6 := hV7.drawn (by omega) hd6.grown
  have hR6 := hR7.drawn (by omega) hd6.grown
  have hN6 := hN7.drawn (show g < w.heap.size + 2 from by omega) hd6.grown
  have hO6 := hO7.drawn hgb hd6.grown
  have hgr6 := hgr7.trans hd6.grown
  clear hX7 hV7 hR7 hN7 hO7 hq7 hgr7 hM7 hd6 hX5 hV5 hR5 hN5 hO5 hq5 hgr5 hX4 hV4 hR4 hN4 hO4 hq4 hgr4 x0 xf hd4 hX3 hV3 hR3 hN3 hO3 hgr3 hq3
  go_wp2
  try rw [HS.out]
  go_loopw [6] (fun i W => ∃ (j : Nat) (a : Int) (b : Option Addr) (m d : Nat) (lx : List X), j ≤ 8 ∧ i = .int .i64 j ∧ Blk W s 38 #[.int .i64 a, .slice b m d] ∧ OwnG W (w.heap.size + 2) (.slice b m d) lx ∧ FitXs lx ∧ FitI a ∧ lx.length ≤ 6 ∧ Blk W w.heap.size 34 #[.int .i64 z, .slice A' l.length c'] ∧ OwnG W base (.slice A' l.length c') l ∧ Blk W (w.heap.size + 1) 38 #[.int .i64 0, .slice none 0 0] ∧ w.grownBy W (some g) ∧ ∃ q, p ≤ q ∧ q + 6 * j ≤ p + 55 ∧ Rdr W g A n c q) (fun i _ => (intOf i).toNat)
  case atStart => exact ⟨j0, (k4 : Int), _, _, _, [], hj0, rfl, hX6, hN6, fun r hr => by simp at hr, ⟨by omega, by omega⟩, by simp, hV6, hO6, hR6, hgr6, q6, by omega, by omega, hq6⟩
  case round =>
   clear hX6 hN6 hV6 hO6 hR6 hgr6 hq6
   obtain ⟨j, a, b, m, d, lx, hj, rfl, hX, hN, hfx, hfa, hlx, hV, hO, hR, hgr, q, hq1, hq2, hq⟩ := hrel
   have hwr := hgr.size
   obtain ⟨hm1, hm2, hm3, hm4⟩ := hN.rd'
   subst hm1
   clear hm2 hm3 hm4
   have x0 : wr.cell? ⟨s, 0, none⟩ = some (.int .i64 a) := by rw [hX.cell]; rfl
   have x1 : wr.cell? ⟨s, 1, none⟩ = some (.slice b lx.length d) := by rw [hX.cell]; rfl
   have y0 : wr.cell? ⟨w.heap.size, 0, none⟩ = some (.int .i64 z) := by rw [hV.cell]; rfl
   have y1 : wr.cell? ⟨w.heap.size, 1, none⟩ = some (.slice A' l.length c') := by rw [hV.cell]; rfl
   by_cases hj9 : 0 < j
   ·
    have hj1 : (0 : Int) < (j : Int) := by omega
    have hj2 : decide ((0 : Int) < (j : Int)) = true := decide_eq_true hj1
    have hal := atL_length l z
    have hfr := fitR_at hfit z
    obtain ⟨al, HAL⟩ : ∃ al, Hid (atL l z = al) := ⟨_, Lib.hid rfl⟩
    rw [HAL.out] at hal hfr
    go_wp2
    go_cut [7, 8] (fun p7 p8 W => ∃ (g7 : Nat) (RA : Int) (b7 : Option Addr) (n7 c7 : Nat) (RX : List X) (k7 : Int), p7 = .pointer (some ⟨g7, 0, none⟩) ∧ p8 = .int .i64 k7 ∧ Blk W g7 38 #[.int .i64 RA, .slice b7 n7 c7] ∧ OwnG W (w.heap.size + 2) (.slice b7 n7 c7) RX ∧ (k7 = 0 → FitXs RX ∧ FitI RA ∧ RX.length ≤ 6) ∧ Blk W s 38 #[.int .i64 a, .slice b lx.length d] ∧ OwnG W (w.heap.size + 2) (.slice b lx.length d) lx ∧ Blk W w.heap.size 34 #[.int .i64 z, .slice A' l.length c'] ∧ OwnG W base (.slice A' l.length c') l ∧ Blk W (w.heap.size + 1) 38 #[.int .i64 0, .slice none 0 0] ∧ w.grownBy W (some g) ∧ ∃ q2, q ≤ q2 ∧ q2 ≤ q + 6 ∧ Rdr W g A n c q2)
    case first =>
     clear x0 x1 y0 y1
     have hX5 := hX.next (Below.refl _ wr).drew
     have hV5 := hV.next (Below.refl _ wr).drew
     have hR5 := hR.next (Below.refl _ wr).drew
     have hN5 := hN.next (Below.refl _ wr).drew
     have hO5 := hO.next (Below.refl _ wr).drew
     have hq5 := hq.next (Below.refl _ wr).drew
     have hgr5 := grown_call hgr (Below.refl _ wr).drew
     refine wp_region_held_drew (S := (fun W => W.cell? ⟨s, 0, none⟩ = some (.int .i64 a) ∧ W.cell? ⟨s, 1, none⟩ = some (.slice b lx.length d) ∧ W.cell? ⟨w.heap.size, 0, none⟩ = some (.int .i64 z) ∧ W.cell? ⟨w.heap.size, 1, none⟩ = some (.slice A' l.length c'))) (by kernel_rfl) ?_ (fun hHeld => ?_)
     focus ((try dsimp only); (exact ⟨by rw [hX5.cell]; rfl, by rw [hX5.cell]; rfl, by rw [hV5.cell]; rfl, by rw [hV5.cell]; rfl⟩))
     obtain ⟨wd, HWD⟩ : ∃ wd, Hid (wr.drew = wd) := ⟨_, Lib.hid rfl⟩
     rw [HWD.out] at hHeld hX5 hV5 hR5 hN5 hO5 hq5 hgr5
     rw [HWD.out]
     refine tk 0 ?_
     refine tk 1 ?_
     refine tk 2 ?_
     refine tk 3 ?_
     refine tk 4 ?_
     refine tk 5 ?_
     refine wpAnyH_ready (rs := [6, 12]) (by kernel_rfl) (by simp) (AllReadyH.cons (by (simp only [ga, gb, gc]; rfl)) (fun K hK => ?_) (AllReadyH.cons (by (simp only [ga, gb, gc]; rfl)) (fun K hK => ?_) AllReadyH.nil))
     ·
      go_simp
      go_at_call 59; refine (specAt z A' c' l z _ hO5.rd'.2.1 (by omega) hO5.rd'.2.2.2).mono ?_; rw [HAL.out]; rintro e w6 ⟨v6, rfl, hA6, hb6⟩; have hX6 := hX5.next hb6; have hV6 := hV5.next hb6; have hR6 := hR5.next hb6; have hN6 := hN5.next hb6; have hO6 := hO5.next hb6; have hq6 := hq5.next hb6; have hgr6 := grown_call hgr5 hb6; obtain ⟨A6, c6, rfl, hv1, hv2, hv3⟩ := hA6.read; clear hv1 hv2 hv3; have hl6 := hq5.lt
      go_wp2_with fail
      refine hK.out _ _ ?_ (fun hHeld => ?_)
      focus ((try dsimp only); (exact ⟨by rw [hX6.cell]; rfl, by rw [hX6.cell]; rfl, by rw [hV6.cell]; rfl, by rw [hV6.cell]; rfl⟩))
      clear hK K
      try simp only [Act.put, pa, pb, pc]
      refine wpAnyH_ready (rs := [7, 12]) (by kernel_rfl) (by simp) (AllReadyH.cons (by (simp only [ga, gb, gc]; rfl)) (fun K hK => ?_) (AllReadyH.cons (by (simp only [ga, gb, gc]; rfl)) (fun K hK => ?_) AllReadyH.nil))
      ·
       go_simp
       go_at_call 87; refine (write3_d g A n c q A6 c6 al _ hq6 (by omega) hfr (by omega) _ hl6 hA6).mono ?_; rintro e w7 ⟨x, rfl, hx, hd7⟩; obtain ⟨q7, h71, h72, hq7⟩ := hd7.rdr; have hX7 := hX6.drawn (by omega) hd7.grown; have hV7 := hV6.drawn (by omega) hd7.grown; have hR7 := hR6.drawn (by omega) hd7.grown; have hN7 := hN6.drawn (show g < w.heap.size + 2 from by omega) hd7.grown; have hO7 := hO6.drawn hgb hd7.grown; have hgr7 := hgr6.trans hd7.grown; obtain ⟨RA, RX, RC, HRR⟩ : ∃ RA RX RC, Hid (wputA z l a lx = RA ∧ wputW z l a lx x = RX ∧ wputC z l a lx x = RC) := ⟨_, _, _, Lib.hid ⟨rfl, rfl, rfl⟩⟩; have HK : Hid (RC = 0 → FitXs RX ∧ FitI RA ∧ RX.length ≤ 6) := Lib.hid (fun e => by obtain ⟨p1, p2, p3, p4, p5, p6⟩ := put_fine (HRR.out.2.2.trans e); rw [← HRR.out.1, ← HRR.out.2.1, p5, p6]; exact ⟨FitXs.putXs hfx hx, hfa, p4.wr.len⟩)
       go_wp2_with fail
       refine hK.out _ _ ?_ (fun hHeld => ?_)
       focus ((try dsimp only); (exact ⟨by rw [hX7.cell]; rfl, by rw [hX7.cell]; rfl, by rw [hV7.cell]; rfl, by rw [hV7.cell]; rfl⟩))
       clear hK K
       try simp only [Act.put, pa, pb, pc]
       refine wpAnyH_ready (rs := [8, 12]) (by kernel_rfl) (by simp) (AllReadyH.cons (by (simp only [ga, gb, gc]; rfl)) (fun K hK => ?_) (AllReadyH.cons (by (simp only [ga, gb, gc]; rfl)) (fun K hK => ?_) AllReadyH.nil))
       ·
        go_simp
        go_at_call 30; refine (specWorkPutO hO7 hN7 hfit hfx hx (by omega) (by omega)).mono ?_; rw [HRR.out.1, HRR.out.2.1, HRR.out.2.2]; rintro e w8 ⟨v8, rfl, hP8, hb8⟩; have hs8 := hgr7.size; have hRl8 := hR7.lt; have hX8 := hX7.next hb8; have hV8 := hV7.next hb8; have hR8 := hR7.next hb8; have hN8 := hN7.next hb8; have hO8 := hO7.next hb8; have hq8 := hq7.next hb8; have hgr8 := grown_call hgr7 hb8; have hP8 := hP8.low (show w.heap.size + 2 ≤ _ from by omega); obtain ⟨b8, n8, c8, rfl⟩ := hP8.slice
        go_wp2_with fail
        refine hK.out _ _ ?_ (fun hHeld => ?_)
        focus ((try dsimp only); (exact ⟨by rw [hX8.cell]; rfl, by rw [hX8.cell]; rfl, by rw [hV8.cell]; rfl, by rw [hV8.cell]; rfl⟩))
        clear hK K
        try simp only [Act.put, pa, pb, pc]
        refine tk 9 ?_
        refine tk 10 ?_
        refine tk 11 ?_
        have hb9 : Below w8.heap.size w8 (w8.alloc (.cells #[.int .i64 0, .slice none 0 0] 38)) := below_alloc (Below.refl _ _) _
        have hY9 := blkA w8 #[.int .i64 0, .slice none 0 0] 38
        have hX9 := hX8.next hb9
        have hV9 := hV8.next hb9
        refine rd1 12 (fun K hK => ?_)
        go_simp
        refine hK.out _ _ ?_ (fun hHeld => ?_)
        focus ((try dsimp only); (exact ⟨by rw [hX9.cell]; rfl, by rw [hX9.cell]; rfl, by rw [hV9.cell]; rfl, by rw [hV9.cell]; rfl⟩))
        clear hK K
        try simp only [Act.put, pa, pb, pc]
        have d0 : (w8.alloc (.cells #[.int .i64 0, .slice none 0 0] 38)).cell? ⟨w8.heap.size, 0, none⟩ = some (.int .i64 0) := (by rw [hY9.cell]; rfl)
        have d1 : (w8.alloc (.cells #[.int .i64 0, .slice none 0 0] 38)).cell? ⟨w8.heap.size, 1, none⟩ = some (.slice none 0 0) := (by rw [hY9.cell]; rfl)
        have df0 := hY9.free 0
        have df1 := hY9.free 1
        have hb10 : Below w8.heap.size w8 (w8.alloc (.cells #[.int .i64 RA, .slice b8 n8 c8] 38)) := below_alloc (Below.refl _ _) _
        have hX10 := hX8.next hb10
        have hV10 := hV8.next hb10
        have hR10 := hR8.next hb10
        have hN10 := hN8.next hb10
        have hO10 := hO8.next hb10
        have hq10 := hq8.next hb10
        have hgr10 := grown_call hgr8 hb10
        have hY10 := blkA w8 #[.int .i64 RA, .slice b8 n8 c8] 38
        have hP10 := hP8.next hb10
        refine rd1 13 (fun K hK => ?_)
        go_simp
        refine hK.out _ _ ?_ (fun hHeld => ?_)
        focus ((try dsimp only); (exact ⟨by rw [hX10.cell]; rfl, by rw [hX10.cell]; rfl, by rw [hV10.cell]; rfl, by rw [hV10.cell]; rfl⟩))
        clear hK K
        try simp only [Act.put, pa, pb, pc]
        clear d0 d1 df0 df1
        refine tk 14 ?_
        refine wpAnyH_done (by kernel_rfl) ?_ _
        go_wp2
        go_meet
        case rel => exact ⟨_, RA, b8, n8, c8, RX, RC, rfl, rfl, hY10.cast rfl, hP10, HK.out, hX10, hN10, hV10, hO10, hR10, hgr10, q7, by omega, by omega, hq10⟩
       ·
        have hb9 : Below w7.heap.size w7 (w7.alloc (.cells #[.int .i64 0, .slice none 0 0] 38)) := below_alloc (Below.refl _ _) _
        have hY9 := blkA w7 #[.int .i64 0, .slice none 0 0] 38
        have hXl9 := hX7.lt
        have hRl9 := hR7.lt
        have hgl9 := hq7.lt
        go_simp
        have hX9 := hX7.next hb9
        have hV9 := hV7.next hb9
        have hR9 := hR7.next hb9
        have hN9 := hN7.next hb9
        have hO9 := hO7.next hb9
        have hq9 := hq7.next hb9
        have hgr9 := grown_call hgr7 hb9
        refine hK.out _ _ ?_ (fun hHeld => ?_)
        focus ((try dsimp only); (exact ⟨by rw [hX9.cell]; rfl, by rw [hX9.cell]; rfl, by rw [hV9.cell]; rfl, by rw [hV9.cell]; rfl⟩))
        clear hK K
        try simp only [Act.put, pa, pb, pc]
        obtain ⟨yb, HYb⟩ : ∃ yb, Hid (w7.heap.size = yb) := ⟨_, Lib.hid rfl⟩
        have hyb1 : w.heap.size + 1 < yb := by have := HYb.out; omega
        have hyb2 : s < yb := by have := HYb.out; omega
        have hyb3 : g < yb := by have := HYb.out; omega
        rw [HYb.out] at hY9
        try rw [HYb.out]
        obtain ⟨w9, HW9⟩ : ∃ w9, Hid ((w7.alloc (.cells #[.int .i64 0, .slice none 0 0] 38)) = w9) := ⟨_, Lib.hid rfl⟩
        rw [HW9.out] at hHeld hX9 hV9 hR9 hY9 hN9 hO9 hq9 hgr9
        rw [HW9.out]
        refine rd1 8 (fun K hK => ?_)
        go_simp
        go_at_call 30; refine (specWorkPutO hO9 hN9 hfit hfx hx (by omega) (by omega)).mono ?_; rw [HRR.out.1, HRR.out.2.1, HRR.out.2.2]; rintro e w8 ⟨v8, rfl, hP8, hb8⟩; have hs8 := hgr9.size; have hRl8 := hR9.lt; have hX8 := hX9.next hb8; have hV8 := hV9.next hb8; have hR8 := hR9.next hb8; have hY8 := hY9.next hb8; have hN8 := hN9.next hb8; have hO8 := hO9.next hb8; have hq8 := hq9.next hb8; have hgr8 := grown_call hgr9 hb8; have hP8 := hP8.low (show w.heap.size + 2 ≤ _ from by omega); obtain ⟨b8, n8, c8, rfl⟩ := hP8.slice
        go_wp2_with fail
        refine hK.out _ _ ?_ (fun hHeld => ?_)
        focus ((try dsimp only); (exact ⟨by rw [hX8.cell]; rfl, by rw [hX8.cell]; rfl, by rw [hV8.cell]; rfl, by rw [hV8.cell]; rfl⟩))
        clear hK K
        try simp only [Act.put, pa, pb, pc]
        refine tk 9 ?_
        refine tk 10 ?_
        refine tk 11 ?_
        have d0 : w8.cell? ⟨yb, 0, none⟩ = some (.int .i64 0) := (by rw [hY8.cell]; rfl)
        have d1 : w8.cell? ⟨yb, 1, none⟩ = some (.slice none 0 0) := (by rw [hY8.cell]; rfl)
        have df0 := hY8.free 0
        have df1 := hY8.free 1
        have hX10 := (hX8.setOther (a := ⟨yb, 0, none⟩) (show s ≠ yb from by omega) (.int .i64 RA)).setOther (a := ⟨yb, 1, none⟩) (show s ≠ yb from by omega) (.slice b8 n8 c8)
        have hV10 := (hV8.setOther (a := ⟨yb, 0, none⟩) (show w.heap.size ≠ yb from by omega) (.int .i64 RA)).setOther (a := ⟨yb, 1, none⟩) (show w.heap.size ≠ yb from by omega) (.slice b8 n8 c8)
        have hR10 := (hR8.setOther (a := ⟨yb, 0, none⟩) (show w.heap.size + 1 ≠ yb from by omega) (.int .i64 RA)).setOther (a := ⟨yb, 1, none⟩) (show w.heap.size + 1 ≠ yb from by omega) (.slice b8 n8 c8)
        have hY10 := (hY8.set_ 0 (.int .i64 RA)).set_ 1 (.slice b8 n8 c8)
        have hN10 := (hN8.setCell (a := ⟨yb, 0, none⟩) (fun k hk e => by obtain ⟨cs, hcs⟩ := hN8.blk_of hk; exact hY8.ne hcs typesWX e.symm) (.int .i64 RA)).setCell (a := ⟨yb, 1, none⟩) (fun k hk e => by obtain ⟨cs, hcs⟩ := hN8.blk_of hk; exact hY8.ne hcs typesWX e.symm) (.slice b8 n8 c8)
        have hO10 := (hO8.setCell (a := ⟨yb, 0, none⟩) (fun k hk e => by obtain ⟨cs, hcs⟩ := hO8.blk_of hk; exact hY8.ne hcs typesWV e.symm) (.int .i64 RA)).setCell (a := ⟨yb, 1, none⟩) (fun k hk e => by obtain ⟨cs, hcs⟩ := hO8.blk_of hk; exact hY8.ne hcs typesWV e.symm) (.slice b8 n8 c8)
        have hP10 := (hP8.setCell (a := ⟨yb, 0, none⟩) (fun k hk e => by obtain ⟨cs, hcs⟩ := hP8.blk_of hk; exact hY8.ne hcs typesWX e.symm) (.int .i64 RA)).setCell (a := ⟨yb, 1, none⟩) (fun k hk e => by obtain ⟨cs, hcs⟩ := hP8.blk_of hk; exact hY8.ne hcs typesWX e.symm) (.slice b8 n8 c8)
        have hbS : Below w.heap.size w8 ((w8.setCell ⟨yb, 0, none⟩ (.int .i64 RA)).setCell ⟨yb, 1, none⟩ (.slice b8 n8 c8)) := ((Below.refl _ _).setCell (show w.heap.size ≤ yb from by omega) _).setCell (show w.heap.size ≤ yb from by omega) _
        have hgr10 := belowKeeps hgr8 hbS (Nat.le_refl _)
        have hq10 := hq8.belowR hbS hgl
        refine rd1 13 (fun K hK => ?_)
        go_simp
        refine hK.out _ _ ?_ (fun hHeld => ?_)
        focus ((try dsimp only); (exact ⟨by rw [hX10.cell]; rfl, by rw [hX10.cell]; rfl, by rw [hV10.cell]; rfl, by rw [hV10.cell]; rfl⟩))
        clear hK K
        try simp only [Act.put, pa, pb, pc]
        clear d0 d1 df0 df1
        refine tk 14 ?_
        refine wpAnyH_done (by kernel_rfl) ?_ _
        go_wp2
        go_meet
        case rel => exact ⟨_, RA, b8, n8, c8, RX, RC, rfl, rfl, hY10.cast rfl, hP10, HK.out, hX10, hN10, hV10, hO10, hR10, hgr10, q7, by omega, by omega, hq10⟩
      ·
       have hb9 : Below w6.heap.size w6 (w6.alloc (.cells #[.int .i64 0, .slice none 0 0] 38)) := below_alloc (Below.refl _ _) _
       have hY9 := blkA w6 #[.int .i64 0, .slice none 0 0] 38
       have hXl9 := hX6.lt
       have hRl9 := hR6.lt
       have hgl9 := hq6.lt
       go_simp
       have hX9 := hX6.next hb9
       have hV9 := hV6.next hb9
       have hR9 := hR6.next hb9
       have hN9 := hN6.next hb9
       have hO9 := hO6.next hb9
       have hq9 := hq6.next hb9
       have hgr9 := grown_call hgr6 hb9
       have hA6 := hA6.next hb9
       refine hK.out _ _ ?_ (fun hHeld => ?_)
       focus ((try dsimp only); (exact ⟨by rw [hX9.cell]; rfl, by rw [hX9.cell]; rfl, by rw [hV9.cell]; rfl, by rw [hV9.cell]; rfl⟩))
       clear hK K
       try simp only [Act.put, pa, pb, pc]
       obtain ⟨yb, HYb⟩ : ∃ yb, Hid (w6.heap.size = yb) := ⟨_, Lib.hid rfl⟩
       have hyb1 : w.heap.size + 1 < yb := by have := HYb.out; omega
       have hyb2 : s < yb := by have := HYb.out; omega
       have hyb3 : g < yb := by have := HYb.out; omega
       rw [HYb.out] at hY9
       try rw [HYb.out]
       obtain ⟨w9, HW9⟩ : ∃ w9, Hid ((w6.alloc (.cells #[.int .i64 0, .slice none 0 0] 38)) = w9) := ⟨_, Lib.hid rfl⟩
       rw [HW9.out] at hHeld hX9 hV9 hR9 hY9 hN9 hO9 hq9 hgr9 hA6
       rw [HW9.out]
       refine rd1 7 (fun K hK => ?_)
       go_simp
       go_at_call 87; refine (write3_d g A n c q A6 c6 al _ hq9 (by omega) hfr (by omega) _ hl6 hA6).mono ?_; rintro e w7 ⟨x, rfl, hx, hd7⟩; obtain ⟨q7, h71, h72, hq7⟩ := hd7.rdr; have hX7 := hX9.drawn (by omega) hd7.grown; have hV7 := hV9.drawn (by omega) hd7.grown; have hR7 := hR9.drawn (by omega) hd7.grown; have hY7 := hY9.drawn (by omega) hd7.grown; have hN7 := hN9.drawn (show g < w.heap.size + 2 from by omega) hd7.grown; have hO7 := hO9.drawn hgb hd7.grown; have hgr7 := hgr9.trans hd7.grown; obtain ⟨RA, RX, RC, HRR⟩ : ∃ RA RX RC, Hid (wputA z l a lx = RA ∧ wputW z l a lx x = RX ∧ wputC z l a lx x = RC) := ⟨_, _, _, Lib.hid ⟨rfl, rfl, rfl⟩⟩; have HK : Hid (RC = 0 → FitXs RX ∧ FitI RA ∧ RX.length ≤ 6) := Lib.hid (fun e => by obtain ⟨p1, p2, p3, p4, p5, p6⟩ := put_fine (HRR.out.2.2.trans e); rw [← HRR.out.1, ← HRR.out.2.1, p5, p6]; exact ⟨FitXs.putXs hfx hx, hfa, p4.wr.len⟩)
       go_wp2_with fail
       refine hK.out _ _ ?_ (fun hHeld => ?_)
       focus ((try dsimp only); (exact ⟨by rw [hX7.cell]; rfl, by rw [hX7.cell]; rfl, by rw [hV7.cell]; rfl, by rw [hV7.cell]; rfl⟩))
       clear hK K
       try simp only [Act.put, pa, pb, pc]
       refine rd1 8 (fun K hK => ?_)
       go_simp
       go_at_call 30; refine (specWorkPutO hO7 hN7 hfit hfx hx (by omega) (by omega)).mono ?_; rw [HRR.out.1, HRR.out.2.1, HRR.out.2.2]; rintro e w8 ⟨v8, rfl, hP8, hb8⟩; have hs8 := hgr7.size; have hRl8 := hR7.lt; have hX8 := hX7.next hb8; have hV8 := hV7.next hb8; have hR8 := hR7.next hb8; have hY8 := hY7.next hb8; have hN8 := hN7.next hb8; have hO8 := hO7.next hb8; have hq8 := hq7.next hb8; have hgr8 := grown_call hgr7 hb8; have hP8 := hP8.low (show w.heap.size + 2 ≤ _ from by omega); obtain ⟨b8, n8, c8, rfl⟩ := hP8.slice
       go_wp2_with fail
       refine hK.out _ _ ?_ (fun hHeld => ?_)
       focus ((try dsimp only); (exact ⟨by rw [hX8.cell]; rfl, by rw [hX8.cell]; rfl, by rw [hV8.cell]; rfl, by rw [hV8.cell]; rfl⟩))
       clear hK K
       try simp only [Act.put, pa, pb, pc]
       refine tk 9 ?_
       refine tk 10 ?_
       refine tk 11 ?_
       have d0 : w8.cell? ⟨yb, 0, none⟩ = some (.int .i64 0) := (by rw [hY8.cell]; rfl)
       have d1 : w8.cell? ⟨yb, 1, none⟩ = some (.slice none 0 0) := (by rw [hY8.cell]; rfl)
       have df0 := hY8.free 0
       have df1 := hY8.free 1
       have hX10 := (hX8.setOther (a := ⟨yb, 0, none⟩) (show s ≠ yb from by omega) (.int .i64 RA)).setOther (a := ⟨yb, 1, none⟩) (show s ≠ yb from by omega) (.slice b8 n8 c8)
       have hV10 := (hV8.setOther (a := ⟨yb, 0, none⟩) (show w.heap.size ≠ yb from by omega) (.int .i64 RA)).setOther (a := ⟨yb, 1, none⟩) (show w.heap.size ≠ yb from by omega) (.slice b8 n8 c8)
       have hR10 := (hR8.setOther (a := ⟨yb, 0, none⟩) (show w.heap.size + 1 ≠ yb from by omega) (.int .i64 RA)).setOther (a := ⟨yb, 1, none⟩) (show w.heap.size + 1 ≠ yb from by omega) (.slice b8 n8 c8)
       have hY10 := (hY8.set_ 0 (.int .i64 RA)).set_ 1 (.slice b8 n8 c8)
       have hN10 := (hN8.setCell (a := ⟨yb, 0, none⟩) (fun k hk e => by obtain ⟨cs, hcs⟩ := hN8.blk_of hk; exact hY8.ne hcs typesWX e.symm) (.int .i64 RA)).setCell (a := ⟨yb, 1, none⟩) (fun k hk e => by obtain ⟨cs, hcs⟩ := hN8.blk_of hk; exact hY8.ne hcs typesWX e.symm) (.slice b8 n8 c8)
       have hO10 := (hO8.setCell (a := ⟨yb, 0, none⟩) (fun k hk e => by obtain ⟨cs, hcs⟩ := hO8.blk_of hk; exact hY8.ne hcs typesWV e.symm) (.int .i64 RA)).setCell (a := ⟨yb, 1, none⟩) (fun k hk e => by obtain ⟨cs, hcs⟩ := hO8.blk_of hk; exact hY8.ne hcs typesWV e.symm) (.slice b8 n8 c8)
       have hP10 := (hP8.setCell (a := ⟨yb, 0, none⟩) (fun k hk e => by obtain ⟨cs, hcs⟩ := hP8.blk_of hk; exact hY8.ne hcs typesWX e.symm) (.int .i64 RA)).setCell (a := ⟨yb, 1, none⟩) (fun k hk e => by obtain ⟨cs, hcs⟩ := hP8.blk_of hk; exact hY8.ne hcs typesWX e.symm) (.slice b8 n8 c8)
       have hbS : Below w.heap.size w8 ((w8.setCell ⟨yb, 0, none⟩ (.int .i64 RA)).setCell ⟨yb, 1, none⟩ (.slice b8 n8 c8)) := ((Below.refl _ _).setCell (show w.heap.size ≤ yb from by omega) _).setCell (show w.heap.size ≤ yb from by omega) _
       have hgr10 := belowKeeps hgr8 hbS (Nat.le_refl _)
       have hq10 := hq8.belowR hbS hgl
       refine rd1 13 (fun K hK => ?_)
       go_simp
       refine hK.out _ _ ?_ (fun hHeld => ?_)
       focus ((try dsimp only); (exact ⟨by rw [hX10.cell]; rfl, by rw [hX10.cell]; rfl, by rw [hV10.cell]; rfl, by rw [hV10.cell]; rfl⟩))
       clear hK K
       try simp only [Act.put, pa, pb, pc]
       clear d0 d1 df0 df1
       refine tk 14 ?_
       refine wpAnyH_done (by kernel_rfl) ?_ _
       go_wp2
       go_meet
       case rel => exact ⟨_, RA, b8, n8, c8, RX, RC, rfl, rfl, hY10.cast rfl, hP10, HK.out, hX10, hN10, hV10, hO10, hR10, hgr10, q7, by omega, by omega, hq10⟩
     ·
      have hb9 : Below wd.heap.size wd (wd.alloc (.cells #[.int .i64 0, .slice none 0 0] 38)) := below_alloc (Below.refl _ _) _
      have hY9 := blkA wd #[.int .i64 0, .slice none 0 0] 38
      have hXl9 := hX5.lt
      have hRl9 := hR5.lt
      have hgl9 := hq5.lt
      go_simp
      have hX9 := hX5.next hb9
      have hV9 := hV5.next hb9
      have hR9 := hR5.next hb9
      have hN9 := hN5.next hb9
      have hO9 := hO5.next hb9
      have hq9 := hq5.next hb9
      have hgr9 := grown_call hgr5 hb9
      refine hK.out _ _ ?_ (fun hHeld => ?_)
      focus ((try dsimp only); (exact ⟨by rw [hX9.cell]; rfl, by rw [hX9.cell]; rfl, by rw [hV9.cell]; rfl, by rw [hV9.cell]; rfl⟩))
      clear hK K
      try simp only [Act.put, pa, pb, pc]
      obtain ⟨yb, HYb⟩ : ∃ yb, Hid (wd.heap.size = yb) := ⟨_, Lib.hid rfl⟩
      have hyb1 : w.heap.size + 1 < yb := by have := HYb.out; omega
      have hyb2 : s < yb := by have := HYb.out; omega
      have hyb3 : g < yb := by have := HYb.out; omega
      rw [HYb.out] at hY9
      try rw [HYb.out]
      obtain ⟨w9, HW9⟩ : ∃ w9, Hid ((wd.alloc (.cells #[.int .i64 0, .slice none 0 0] 38)) = w9) := ⟨_, Lib.hid rfl⟩
      rw [HW9.out] at hHeld hX9 hV9 hR9 hY9 hN9 hO9 hq9 hgr9
      rw [HW9.out]
      refine rd1 6 (fun K hK => ?_)
      go_simp
      go_at_call 59; refine (specAt z A' c' l z _ hO9.rd'.2.1 (by omega) hO9.rd'.2.2.2).mono ?_; rw [HAL.out]; rintro e w6 ⟨v6, rfl, hA6, hb6⟩; have hX6 := hX9.next hb6; have hV6 := hV9.next hb6; have hR6 := hR9.next hb6; have hY6 := hY9.next hb6; have hN6 := hN9.next hb6; have hO6 := hO9.next hb6; have hq6 := hq9.next hb6; have hgr6 := grown_call hgr9 hb6; obtain ⟨A6, c6, rfl, hv1, hv2, hv3⟩ := hA6.read; clear hv1 hv2 hv3; have hl6 := hq9.lt
      go_wp2_with fail
      refine hK.out _ _ ?_ (fun hHeld => ?_)
      focus ((try dsimp only); (exact ⟨by rw [hX6.cell]; rfl, by rw [hX6.cell]; rfl, by rw [hV6.cell]; rfl, by rw [hV6.cell]; rfl⟩))
      clear hK K
      try simp only [Act.put, pa, pb, pc]
      refine rd1 7 (fun K hK => ?_)
      go_simp
      go_at_call 87; refine (write3_d g A n c q A6 c6 al _ hq6 (by omega) hfr (by omega) _ hl6 hA6).mono ?_; rintro e w7 ⟨x, rfl, hx, hd7⟩; obtain ⟨q7, h71, h72, hq7⟩ := hd7.rdr; have hX7 := hX6.drawn (by omega) hd7.grown; have hV7 := hV6.drawn (by omega) hd7.grown; have hR7 := hR6.drawn (by omega) hd7.grown; have hY7 := hY6.drawn (by omega) hd7.grown; have hN7 := hN6.drawn (show g < w.heap.size + 2 from by omega) hd7.grown; have hO7 := hO6.drawn hgb hd7.grown; have hgr7 := hgr6.trans hd7.grown; obtain ⟨RA, RX, RC, HRR⟩ : ∃ RA RX RC, Hid (wputA z l a lx = RA ∧ wputW z l a lx x = RX ∧ wputC z l a lx x = RC) := ⟨_, _, _, Lib.hid ⟨rfl, rfl, rfl⟩⟩; have HK : Hid (RC = 0 → FitXs RX ∧ FitI RA ∧ RX.length ≤ 6) := Lib.hid (fun e => by obtain ⟨p1, p2, p3, p4, p5, p6⟩ := put_fine (HRR.out.2.2.trans e); rw [← HRR.out.1, ← HRR.out.2.1, p5, p6]; exact ⟨FitXs.putXs hfx hx, hfa, p4.wr.len⟩)
      go_wp2_with fail
      refine hK.out _ _ ?_ (fun hHeld => ?_)
      focus ((try dsimp only); (exact ⟨by rw [hX7.cell]; rfl, by rw [hX7.cell]; rfl, by rw [hV7.cell]; rfl, by rw [hV7.cell]; rfl⟩))
      clear hK K
      try simp only [Act.put, pa, pb, pc]
      refine rd1 8 (fun K hK => ?_)
      go_simp
      go_at_call 30; refine (specWorkPutO hO7 hN7 hfit hfx hx (by omega) (by omega)).mono ?_; rw [HRR.out.1, HRR.out.2.1, HRR.out.2.2]; rintro e w8 ⟨v8, rfl, hP8, hb8⟩; have hs8 := hgr7.size; have hRl8 := hR7.lt; have hX8 := hX7.next hb8; have hV8 := hV7.next hb8; have hR8 := hR7.next hb8; have hY8 := hY7.next hb8; have hN8 := hN7.next hb8; have hO8 := hO7.next hb8; have hq8 := hq7.next hb8; have hgr8 := grown_call hgr7 hb8; have hP8 := hP8.low (show w.heap.size + 2 ≤ _ from by omega); obtain ⟨b8, n8, c8, rfl⟩ := hP8.slice
      go_wp2_with fail
      refine hK.out _ _ ?_ (fun hHeld => ?_)
      focus ((try dsimp only); (exact ⟨by rw [hX8.cell]; rfl, by rw [hX8.cell]; rfl, by rw [hV8.cell]; rfl, by rw [hV8.cell]; rfl⟩))
      clear hK K
      try simp only [Act.put, pa, pb, pc]
      refine tk 9 ?_
      refine tk 10 ?_
      refine tk 11 ?_
      have d0 : w8.cell? ⟨yb, 0, none⟩ = some (.int .i64 0) := (by rw [hY8.cell]; rfl)
      have d1 : w8.cell? ⟨yb, 1, none⟩ = some (.slice none 0 0) := (by rw [hY8.cell]; rfl)
      have df0 := hY8.free 0
      have df1 := hY8.free 1
      have hX10 := (hX8.setOther (a := ⟨yb, 0, none⟩) (show s ≠ yb from by omega) (.int .i64 RA)).setOther (a := ⟨yb, 1, none⟩) (show s ≠ yb from by omega) (.slice b8 n8 c8)
      have hV10 := (hV8.setOther (a := ⟨yb, 0, none⟩) (show w.heap.size ≠ yb from by omega) (.int .i64 RA)).setOther (a := ⟨yb, 1, none⟩) (show w.heap.size ≠ yb from by omega) (.slice b8 n8 c8)
      have hR10 := (hR8.setOther (a := ⟨yb, 0, none⟩) (show w.heap.size + 1 ≠ yb from by omega) (.int .i64 RA)).setOther (a := ⟨yb, 1, none⟩) (show w.heap.size + 1 ≠ yb from by omega) (.slice b8 n8 c8)
      have hY10 := (hY8.set_ 0 (.int .i64 RA)).set_ 1 (.slice b8 n8 c8)
      have hN10 := (hN8.setCell (a := ⟨yb, 0, none⟩) (fun k hk e => by obtain ⟨cs, hcs⟩ := hN8.blk_of hk; exact hY8.ne hcs typesWX e.symm) (.int .i64 RA)).setCell (a := ⟨yb, 1, none⟩) (fun k hk e => by obtain ⟨cs, hcs⟩ := hN8.blk_of hk; exact hY8.ne hcs typesWX e.symm) (.slice b8 n8 c8)
      have hO10 := (hO8.setCell (a := ⟨yb, 0, none⟩) (fun k hk e => by obtain ⟨cs, hcs⟩ := hO8.blk_of hk; exact hY8.ne hcs typesWV e.symm) (.int .i64 RA)).setCell (a := ⟨yb, 1, none⟩) (fun k hk e => by obtain ⟨cs, hcs⟩ := hO8.blk_of hk; exact hY8.ne hcs typesWV e.symm) (.slice b8 n8 c8)
      have hP10 := (hP8.setCell (a := ⟨yb, 0, none⟩) (fun k hk e => by obtain ⟨cs, hcs⟩ := hP8.blk_of hk; exact hY8.ne hcs typesWX e.symm) (.int .i64 RA)).setCell (a := ⟨yb, 1, none⟩) (fun k hk e => by obtain ⟨cs, hcs⟩ := hP8.blk_of hk; exact hY8.ne hcs typesWX e.symm) (.slice b8 n8 c8)
      have hbS : Below w.heap.size w8 ((w8.setCell ⟨yb, 0, none⟩ (.int .i64 RA)).setCell ⟨yb, 1, none⟩ (.slice b8 n8 c8)) := ((Below.refl _ _).setCell (show w.heap.size ≤ yb from by omega) _).setCell (show w.heap.size ≤ yb from by omega) _
      have hgr10 := belowKeeps hgr8 hbS (Nat.le_refl _)
      have hq10 := hq8.belowR hbS hgl
      refine rd1 13 (fun K hK => ?_)
      go_simp
      refine hK.out _ _ ?_ (fun hHeld => ?_)
      focus ((try dsimp only); (exact ⟨by rw [hX10.cell]; rfl, by rw [hX10.cell]; rfl, by rw [hV10.cell]; rfl, by rw [hV10.cell]; rfl⟩))
      clear hK K
      try simp only [Act.put, pa, pb, pc]
      clear d0 d1 df0 df1
      refine tk 14 ?_
      refine wpAnyH_done (by kernel_rfl) ?_ _
      go_wp2
      go_meet
      case rel => exact ⟨_, RA, b8, n8, c8, RX, RC, rfl, rfl, hY10.cast rfl, hP10, HK.out, hX10, hN10, hV10, hO10, hR10, hgr10, q7, by omega, by omega, hq10⟩
    case rest =>
     clear hX hN hV hO hR hgr hq x0 x1 y0 y1
     obtain ⟨g7, RA, b7, n7, c7, RX, k7, rfl, rfl, hY7, hP7, hK7, hX7, hN7, hV7, hO7, hR7, hgr7, q7, h71, h72, hq7⟩ := hcut
     by_cases hk7 : k7 = 0
     ·
      obtain ⟨hf7, hi7, hl7⟩ := hK7 hk7
      subst hk7
      have y0 : wc.cell? ⟨g7, 0, none⟩ = some (.int .i64 RA) := by rw [hY7.cell]; rfl
      have y1 : wc.cell? ⟨g7, 1, none⟩ = some (.slice b7 n7 c7) := by rw [hY7.cell]; rfl
      have x0 : wc.cell? ⟨s, 0, none⟩ = some (.int .i64 a) := by rw [hX7.cell]; rfl
      have x1 : wc.cell? ⟨s, 1, none⟩ = some (.slice b lx.length d) := by rw [hX7.cell]; rfl
      have xf0 := hX7.free 0
      have xf1 := hX7.free 1
      have hX9 := (hX7.set_ 0 (.int .i64 RA)).set_ 1 (.slice b7 n7 c7)
      have hV9 := (hV7.setOther (a := ⟨s, 0, none⟩) (show w.heap.size ≠ s from by omega) (.int .i64 RA)).setOther (a := ⟨s, 1, none⟩) (show w.heap.size ≠ s from by omega) (.slice b7 n7 c7)
      have hR9 := (hR7.setOther (a := ⟨s, 0, none⟩) (show w.heap.size + 1 ≠ s from by omega) (.int .i64 RA)).setOther (a := ⟨s, 1, none⟩) (show w.heap.size + 1 ≠ s from by omega) (.slice b7 n7 c7)
      have hP9 := (hP7.setCell (a := ⟨s, 0, none⟩) (fun k hk e => by obtain ⟨cs, hcs⟩ := hP7.blk_of hk; exact hX7.ne hcs typesWX e.symm) (.int .i64 RA)).setCell (a := ⟨s, 1, none⟩) (fun k hk e => by obtain ⟨cs, hcs⟩ := hP7.blk_of hk; exact hX7.ne hcs typesWX e.symm) (.slice b7 n7 c7)
      have hO9 := (hO7.setCell (a := ⟨s, 0, none⟩) (fun k hk e => by obtain ⟨cs, hcs⟩ := hO7.blk_of hk; exact hX7.ne hcs typesWV e.symm) (.int .i64 RA)).setCell (a := ⟨s, 1, none⟩) (fun k hk e => by obtain ⟨cs, hcs⟩ := hO7.blk_of hk; exact hX7.ne hcs typesWV e.symm) (.slice b7 n7 c7)
      have hbS : Below w.heap.size wc ((wc.setCell ⟨s, 0, none⟩ (.int .i64 RA)).setCell ⟨s, 1, none⟩ (.slice b7 n7 c7)) := ((Below.refl _ _).setCell (show w.heap.size ≤ s from by omega) _).setCell (show w.heap.size ≤ s from by omega) _
      have hgr9 := belowKeeps hgr7 hbS (Nat.le_refl _)
      have hq9 := hq7.belowR hbS hgl
      go_wp2
      go_roundw
      case rel => exact ⟨j - 1, RA, b7, n7, c7, RX, by omega, by go_num, hX9.cast rfl, hP9, hf7, hi7, hl7, hV9, hO9, hR9, hgr9, q7, by omega, by omega, hq9⟩
      case measure => simp [intOf]; omega
     ·
      have hk8 : (k7 == 0) = false := by simp [hk7]
      go_wp2
      go_roundw
      case rel => exact ⟨j - 1, a, b, _, d, lx, by omega, by go_num, hX7, hN7, hfx, hfa, hlx, hV7, hO7, hR7, hgr7, q7, by omega, by omega, hq7⟩
      case measure => simp [intOf]; omega
   ·
    have hj2 : decide ((0 : Int) < (j : Int)) = false := decide_eq_false (by omega)
    clear y0 y1
    have y0 : wr.cell? ⟨s, 0, none⟩ = some (.int .i64 a) := by rw [hX.cell]; rfl
    have y1 : wr.cell? ⟨s, 1, none⟩ = some (.slice b lx.length d) := by rw [hX.cell]; rfl
    have d0 : wr.cell? ⟨w.heap.size + 1, 0, none⟩ = some (.int .i64 0) := by rw [hR.cell]; rfl
    have d1 : wr.cell? ⟨w.heap.size + 1, 1, none⟩ = some (.slice none 0 0) := by rw [hR.cell]; rfl
    have f0 := hR.free 0
    have f1 := hR.free 1
    go_wp2
    refine bodyPost_ret (v := .agg #[.int .i64 a, .slice b lx.length d]) (by simp [results, Tryz.results126, go_sem, d0, d1]) rfl ⟨a, .slice b lx.length d, lx, rfl, ?_, hfx, hfa, hlx, ?_⟩
    ·
     have hne : ∀ g, (.slice b lx.length d : Value).ownBlock = some g → g ≠ w.heap.size + 1 := fun g hg => by have := (hN.block_lt hg).1; have := HAR.out; omega
     exact ((hN.setCell (a := ⟨w.heap.size + 1, 0, none⟩) hne _).setCell (a := ⟨w.heap.size + 1, 1, none⟩) hne _).low (by have := HAR.out; omega)
    ·
     exact ⟨hgS hgr, q, by omega, by omega, hqS hq⟩
 ·
  have e0 : ((k3 : Int) == 0) = false := by simp; omega
  have hb6 : Below w3.heap.size w3 (w3.alloc (.cells #[.int .i64 2, .int .i64 3, .int .i64 1, .int .i64 0, .int .i64 5, .int .i64 8] 3)) := below_alloc (Below.refl _ _) _
  have hX7 := hX3.next hb6
  have hV7 := hV3.next hb6
  have hR7 := hR3.next hb6
  have hN7 := hN3.next hb6
  have hO7 := hO3.next hb6
  have hq7 := hq3.next hb6
  have hgr7 := grown_call hgr3 hb6
  have hM7 : Blk (w3.alloc (.cells #[.int .i64 2, .int .i64 3, .int .i64 1, .int .i64 0, .int .i64 5, .int .i64 8] 3)) w3.heap.size 3 (zsW.map (Value.int .i64)).toArray := blkA w3 _ _
  have hgl3 := hq3.lt
  go_wp2_with fail
  refine (num_d g A n c q3 w3.heap.size zsW _ hq7 (by omega) (by omega) hM7 6 rfl (by omega) (by omega)).mono ?_
  rintro e w6 ⟨zz, rfl, hzz, hd6⟩
  obtain ⟨j0, rfl, hj0⟩ := zsW_small zz hzz
  obtain ⟨q6, h61, h62, hq6⟩ := hd6.rdr
  have hX6 := hX7.drawn (by omega) hd6.grown
  have hV6 := hV7.drawn (by omega) hd6.grown
  have hR6 := hR7.drawn (by omega) hd6.grown
  have hN6 := hN7.drawn (show g < w.heap.size + 2 from by omega) hd6.grown
  have hO6 := hO7.drawn hgb hd6.grown
  have hgr6 := hgr7.trans hd6.grown
  clear hX7 hV7 hR7 hN7 hO7 hq7 hgr7 hM7 hd6 hX3 hV3 hR3 hN3 hO3 hgr3 hq3
  go_wp2
  try rw [HS.out]
  go_loopw [6] (fun i W => ∃ (j : Nat) (a : Int) (b : Option Addr) (m d : Nat) (lx : List X), j ≤ 8 ∧ i = .int .i64 j ∧ Blk W s 38 #[.int .i64 a, .slice b m d] ∧ OwnG W (w.heap.size + 2) (.slice b m d) lx ∧ FitXs lx ∧ FitI a ∧ lx.length ≤ 6 ∧ Blk W w.heap.size 34 #[.int .i64 z, .slice A' l.length c'] ∧ OwnG W base (.slice A' l.length c') l ∧ Blk W (w.heap.size + 1) 38 #[.int .i64 0, .slice none 0 0] ∧ w.grownBy W (some g) ∧ ∃ q, p ≤ q ∧ q + 6 * j ≤ p + 55 ∧ Rdr W g A n c q) (fun i _ => (intOf i).toNat)
  case atStart => exact ⟨j0, z, _, _, _, [], hj0, rfl, hX6, hN6, fun r hr => by simp at hr, ⟨by omega, by omega⟩, by simp, hV6, hO6, hR6, hgr6, q6, by omega, by omega, hq6⟩
  case round =>
   clear hX6 hN6 hV6 hO6 hR6 hgr6 hq6
   obtain ⟨j, a, b, m, d, lx, hj, rfl, hX, hN, hfx, hfa, hlx, hV, hO, hR, hgr, q, hq1, hq2, hq⟩ := hrel
   have hwr := hgr.size
   obtain ⟨hm1, hm2, hm3, hm4⟩ := hN.rd'
   subst hm1
   clear hm2 hm3 hm4
   have x0 : wr.cell? ⟨s, 0, none⟩ = some (.int .i64 a) := by rw [hX.cell]; rfl
   have x1 : wr.cell? ⟨s, 1, none⟩ = some (.slice b lx.length d) := by rw [hX.cell]; rfl
   have y0 : wr.cell? ⟨w.heap.size, 0, none⟩ = some (.int .i64 z) := by rw [hV.cell]; rfl
   have y1 : wr.cell? ⟨w.heap.size, 1, none⟩ = some (.slice A' l.length c') := by rw [hV.cell]; rfl
   by_cases hj9 : 0 < j
   ·
    have hj1 : (0 : Int) < (j : Int) := by omega
    have hj2 : decide ((0 : Int) < (j : Int)) = true := decide_eq_true hj1
    have hal := atL_length l z
    have hfr := fitR_at hfit z
    obtain ⟨al, HAL⟩ : ∃ al, Hid (atL l z = al) := ⟨_, Lib.hid rfl⟩
    rw [HAL.out] at hal hfr
    go_wp2
    go_cut [7, 8] (fun p7 p8 W => ∃ (g7 : Nat) (RA : Int) (b7 : Option Addr) (n7 c7 : Nat) (RX : List X) (k7 : Int), p7 = .pointer (some ⟨g7, 0, none⟩) ∧ p8 = .int .i64 k7 ∧ Blk W g7 38 #[.int .i64 RA, .slice b7 n7 c7] ∧ OwnG W (w.heap.size + 2) (.slice b7 n7 c7) RX ∧ (k7 = 0 → FitXs RX ∧ FitI RA ∧ RX.length ≤ 6) ∧ Blk W s 38 #[.int .i64 a, .slice b lx.length d] ∧ OwnG W (w.heap.size + 2) (.slice b lx.length d) lx ∧ Blk W w.heap.size 34 #[.int .i64 z, .slice A' l.length c'] ∧ OwnG W base (.slice A' l.length c') l ∧ Blk W (w.heap.size + 1) 38 #[.int .i64 0, .slice none 0 0] ∧ w.grownBy W (some g) ∧ ∃ q2, q ≤ q2 ∧ q2 ≤ q + 6 ∧ Rdr W g A n c q2)
    case first =>
     clear x0 x1 y0 y1
     have hX5 := hX.next (Below.refl _ wr).drew
     have hV5 := hV.next (Below.refl _ wr).drew
     have hR5 := hR.next (Below.refl _ wr).drew
     have hN5 := hN.next (Below.refl _ wr).drew
     have hO5 := hO.next (Below.refl _ wr).drew
     have hq5 := hq.next (Below.refl _ wr).drew
     have hgr5 := grown_call hgr (Below.refl _ wr).drew
     refine wp_region_held_drew (S := (fun W => W.cell? ⟨s, 0, none⟩ = some (.int .i64 a) ∧ W.cell? ⟨s, 1, none⟩ = some (.slice b lx.length d) ∧ W.cell? ⟨w.heap.size, 0, none⟩ = some (.int .i64 z) ∧ W.cell? ⟨w.heap.size, 1, none⟩ = some (.slice A' l.length c'))) (by kernel_rfl) ?_ (fun hHeld => ?_)
     focus ((try dsimp only); (exact ⟨by rw [hX5.cell]; rfl, by rw [hX5.cell]; rfl, by rw [hV5.cell]; rfl, by rw [hV5.cell]; rfl⟩))
     obtain ⟨wd, HWD⟩ : ∃ wd, Hid (wr.drew = wd) := ⟨_, Lib.hid rfl⟩
     rw [HWD.out] at hHeld hX5 hV5 hR5 hN5 hO5 hq5 hgr5
     rw [HWD.out]
     refine tk 0 ?_
     refine tk 1 ?_
     refine tk 2 ?_
     refine tk 3 ?_
     refine tk 4 ?_
     refine tk 5 ?_
     refine wpAnyH_ready (rs := [6, 12]) (by kernel_rfl) (by simp) (AllReadyH.cons (by (simp only [ga, gb, gc]; rfl)) (fun K hK => ?_) (AllReadyH.cons (by (simp only [ga, gb, gc]; rfl)) (fun K hK => ?_) AllReadyH.nil))
     ·
      go_simp
      go_at_call 59; refine (specAt z A' c' l z _ hO5.rd'.2.1 (by omega) hO5.rd'.2.2.2).mono ?_; rw [HAL.out]; rintro e w6 ⟨v6, rfl, hA6, hb6⟩; have hX6 := hX5.next hb6; have hV6 := hV5.next hb6; have hR6 := hR5.next hb6; have hN6 := hN5.next hb6; have hO6 := hO5.next hb6; have hq6 := hq5.next hb6; have hgr6 := grown_call hgr5 hb6; obtain ⟨A6, c6, rfl, hv1, hv2, hv3⟩ := hA6.read; clear hv1 hv2 hv3; have hl6 := hq5.lt
      go_wp2_with fail
      refine hK.out _ _ ?_ (fun hHeld => ?_)
      focus ((try dsimp only); (exact ⟨by rw [hX6.cell]; rfl, by rw [hX6.cell]; rfl, by rw [hV6.cell]; rfl, by rw [hV6.cell]; rfl⟩))
      clear hK K
      try simp only [Act.put, pa, pb, pc]
      refine wpAnyH_ready (rs := [7, 12]) (by kernel_rfl) (by simp) (AllReadyH.cons (by (simp only [ga, gb, gc]; rfl)) (fun K hK => ?_) (AllReadyH.cons (by (simp only [ga, gb, gc]; rfl)) (fun K hK => ?_) AllReadyH.nil))
      ·
       go_simp
       go_at_call 87; refine (write3_d g A n c q A6 c6 al _ hq6 (by omega) hfr (by omega) _ hl6 hA6).mono ?_; rintro e w7 ⟨x, rfl, hx, hd7⟩; obtain ⟨q7, h71, h72, hq7⟩ := hd7.rdr; have hX7 := hX6.drawn (by omega) hd7.grown; have hV7 := hV6.drawn (by omega) hd7.grown; have hR7 := hR6.drawn (by omega) hd7.grown; have hN7 := hN6.drawn (show g < w.heap.size + 2 from by omega) hd7.grown; have hO7 := hO6.drawn hgb hd7.grown; have hgr7 := hgr6.trans hd7.grown; obtain ⟨RA, RX, RC, HRR⟩ : ∃ RA RX RC, Hid (wputA z l a lx = RA ∧ wputW z l a lx x = RX ∧ wputC z l a lx x = RC) := ⟨_, _, _, Lib.hid ⟨rfl, rfl, rfl⟩⟩; have HK : Hid (RC = 0 → FitXs RX ∧ FitI RA ∧ RX.length ≤ 6) := Lib.hid (fun e => by obtain ⟨p1, p2, p3, p4, p5, p6⟩ := put_fine (HRR.out.2.2.trans e); rw [← HRR.out.1, ← HRR.out.2.1, p5, p6]; exact ⟨FitXs.putXs hfx hx, hfa, p4.wr.len⟩)
       go_wp2_with fail
       refine hK.out _ _ ?_ (fun hHeld => ?_)
       focus ((try dsimp only); (exact ⟨by rw [hX7.cell]; rfl, by rw [hX7.cell]; rfl, by rw [hV7.cell]; rfl, by rw [hV7.cell]; rfl⟩))
       clear hK K
       try simp only [Act.put, pa, pb, pc]
       refine wpAnyH_ready (rs := [8, 12]) (by kernel_rfl) (by simp) (AllReadyH.cons (by (simp only [ga, gb, gc]; rfl)) (fun K hK => ?_) (AllReadyH.cons (by (simp only [ga, gb, gc]; rfl)) (fun K hK => ?_) AllReadyH.nil))
       ·
        go_simp
        go_at_call 30; refine (specWorkPutO hO7 hN7 hfit hfx hx (by omega) (by omega)).mono ?_; rw [HRR.out.1, HRR.out.2.1, HRR.out.2.2]; rintro e w8 ⟨v8, rfl, hP8, hb8⟩; have hs8 := hgr7.size; have hRl8 := hR7.lt; have hX8 := hX7.next hb8; have hV8 := hV7.next hb8; have hR8 := hR7.next hb8; have hN8 := hN7.next hb8; have hO8 := hO7.next hb8; have hq8 := hq7.next hb8; have hgr8 := grown_call hgr7 hb8; have hP8 := hP8.low (show w.heap.size + 2 ≤ _ from by omega); obtain ⟨b8, n8, c8, rfl⟩ := hP8.slice
        go_wp2_with fail
        refine hK.out _ _ ?_ (fun hHeld => ?_)
        focus ((try dsimp only); (exact ⟨by rw [hX8.cell]; rfl, by rw [hX8.cell]; rfl, by rw [hV8.cell]; rfl, by rw [hV8.cell]; rfl⟩))
        clear hK K
        try simp only [Act.put, pa, pb, pc]
        refine tk 9 ?_
        refine tk 10 ?_
        refine tk 11 ?_
        have hb9 : Below w8.heap.size w8 (w8.alloc (.cells #[.int .i64 0, .slice none 0 0] 38)) := below_alloc (Below.refl _ _) _
        have hY9 := blkA w8 #[.int .i64 0, .slice none 0 0] 38
        have hX9 := hX8.next hb9
        have hV9 := hV8.next hb9
        refine rd1 12 (fun K hK => ?_)
        go_simp
        refine hK.out _ _ ?_ (fun hHeld => ?_)
        focus ((try dsimp only); (exact ⟨by rw [hX9.cell]; rfl, by rw [hX9.cell]; rfl, by rw [hV9.cell]; rfl, by rw [hV9.cell]; rfl⟩))
        clear hK K
        try simp only [Act.put, pa, pb, pc]
        have d0 : (w8.alloc (.cells #[.int .i64 0, .slice none 0 0] 38)).cell? ⟨w8.heap.size, 0, none⟩ = some (.int .i64 0) := (by rw [hY9.cell]; rfl)
        have d1 : (w8.alloc (.cells #[.int .i64 0, .slice none 0 0] 38)).cell? ⟨w8.heap.size, 1, none⟩ = some (.slice none 0 0) := (by rw [hY9.cell]; rfl)
        have df0 := hY9.free 0
        have df1 := hY9.free 1
        have hb10 : Below w8.heap.size w8 (w8.alloc (.cells #[.int .i64 RA, .slice b8 n8 c8] 38)) := below_alloc (Below.refl _ _) _
        have hX10 := hX8.next hb10
        have hV10 := hV8.next hb10
        have hR10 := hR8.next hb10
        have hN10 := hN8.next hb10
        have hO10 := hO8.next hb10
        have hq10 := hq8.next hb10
        have hgr10 := grown_call hgr8 hb10
        have hY10 := blkA w8 #[.int .i64 RA, .slice b8 n8 c8] 38
        have hP10 := hP8.next hb10
        refine rd1 13 (fun K hK => ?_)
        go_simp
        refine hK.out _ _ ?_ (fun hHeld => ?_)
        focus ((try dsimp only); (exact ⟨by rw [hX10.cell]; rfl, by rw [hX10.cell]; rfl, by rw [hV10.cell]; rfl, by rw [hV10.cell]; rfl⟩))
        clear hK K
        try simp only [Act.put, pa, pb, pc]
        clear d0 d1 df0 df1
        refine tk 14 ?_
        refine wpAnyH_done (by kernel_rfl) ?_ _
        go_wp2
        go_meet
        case rel => exact ⟨_, RA, b8, n8, c8, RX, RC, rfl, rfl, hY10.cast rfl, hP10, HK.out, hX10, hN10, hV10, hO10, hR10, hgr10, q7, by omega, by omega, hq10⟩
       ·
        have hb9 : Below w7.heap.size w7 (w7.alloc (.cells #[.int .i64 0, .slice none 0 0] 38)) := below_alloc (Below.refl _ _) _
        have hY9 := blkA w7 #[.int .i64 0, .slice none 0 0] 38
        have hXl9 := hX7.lt
        have hRl9 := hR7.lt
        have hgl9 := hq7.lt
        go_simp
        have hX9 := hX7.next hb9
        have hV9 := hV7.next hb9
        have hR9 := hR7.next hb9
        have hN9 := hN7.next hb9
        have hO9 := hO7.next hb9
        have hq9 := hq7.next hb9
        have hgr9 := grown_call hgr7 hb9
        refine hK.out _ _ ?_ (fun hHeld => ?_)
        focus ((try dsimp only); (exact ⟨by rw [hX9.cell]; rfl, by rw [hX9.cell]; rfl, by rw [hV9.cell]; rfl, by rw [hV9.cell]; rfl⟩))
        clear hK K
        try simp only [Act.put, pa, pb, pc]
        obtain ⟨yb, HYb⟩ : ∃ yb, Hid (w7.heap.size = yb) := ⟨_, Lib.hid rfl⟩
        have hyb1 : w.heap.size + 1 < yb := by have := HYb.out; omega
        have hyb2 : s < yb := by have := HYb.out; omega
        have hyb3 : g < yb := by have := HYb.out; omega
        rw [HYb.out] at hY9
        try rw [HYb.out]
        obtain ⟨w9, HW9⟩ : ∃ w9, Hid ((w7.alloc (.cells #[.int .i64 0, .slice none 0 0] 38)) = w9) := ⟨_, Lib.hid rfl⟩
        rw [HW9.out] at hHeld hX9 hV9 hR9 hY9 hN9 hO9 hq9 hgr9
        rw [HW9.out]
        refine rd1 8 (fun K hK => ?_)
        go_simp
        go_at_call 30; refine (specWorkPutO hO9 hN9 hfit hfx hx (by omega) (by omega)).mono ?_; rw [HRR.out.1, HRR.out.2.1, HRR.out.2.2]; rintro e w8 ⟨v8, rfl, hP8, hb8⟩; have hs8 := hgr9.size; have hRl8 := hR9.lt; have hX8 := hX9.next hb8; have hV8 := hV9.next hb8; have hR8 := hR9.next hb8; have hY8 := hY9.next hb8; have hN8 := hN9.next hb8; have hO8 := hO9.next hb8; have hq8 := hq9.next hb8; have hgr8 := grown_call hgr9 hb8; have hP8 := hP8.low (show w.heap.size + 2 ≤ _ from by omega); obtain ⟨b8, n8, c8, rfl⟩ := hP8.slice
        go_wp2_with fail
        refine hK.out _ _ ?_ (fun hHeld => ?_)
        focus ((try dsimp only); (exact ⟨by rw [hX8.cell]; rfl, by rw [hX8.cell]; rfl, by rw [hV8.cell]; rfl, by rw [hV8.cell]; rfl⟩))
        clear hK K
        try simp only [Act.put, pa, pb, pc]
        refine tk 9 ?_
        refine tk 10 ?_
        refine tk 11 ?_
        have d0 : w8.cell? ⟨yb, 0, none⟩ = some (.int .i64 0) := (by rw [hY8.cell]; rfl)
        have d1 : w8.cell? ⟨yb, 1, none⟩ = some (.slice none 0 0) := (by rw [hY8.cell]; rfl)
        have df0 := hY8.free 0
        have df1 := hY8.free 1
        have hX10 := (hX8.setOther (a := ⟨yb, 0, none⟩) (show s ≠ yb from by omega) (.int .i64 RA)).setOther (a := ⟨yb, 1, none⟩) (show s ≠ yb from by omega) (.slice b8 n8 c8)
        have hV10 := (hV8.setOther (a := ⟨yb, 0, none⟩) (show w.heap.size ≠ yb from by omega) (.int .i64 RA)).setOther (a := ⟨yb, 1, none⟩) (show w.heap.size ≠ yb from by omega) (.slice b8 n8 c8)
        have hR10 := (hR8.setOther (a := ⟨yb, 0, none⟩) (show w.heap.size + 1 ≠ yb from by omega) (.int .i64 RA)).setOther (a := ⟨yb, 1, none⟩) (show w.heap.size + 1 ≠ yb from by omega) (.slice b8 n8 c8)
        have hY10 := (hY8.set_ 0 (.int .i64 RA)).set_ 1 (.slice b8 n8 c8)
        have hN10 := (hN8.setCell (a := ⟨yb, 0, none⟩) (fun k hk e => by obtain ⟨cs, hcs⟩ := hN8.blk_of hk; exact hY8.ne hcs typesWX e.symm) (.int .i64 RA)).setCell (a := ⟨yb, 1, none⟩) (fun k hk e => by obtain ⟨cs, hcs⟩ := hN8.blk_of hk; exact hY8.ne hcs typesWX e.symm) (.slice b8 n8 c8)
        have hO10 := (hO8.setCell (a := ⟨yb, 0, none⟩) (fun k hk e => by obtain ⟨cs, hcs⟩ := hO8.blk_of hk; exact hY8.ne hcs typesWV e.symm) (.int .i64 RA)).setCell (a := ⟨yb, 1, none⟩) (fun k hk e => by obtain ⟨cs, hcs⟩ := hO8.blk_of hk; exact hY8.ne hcs typesWV e.symm) (.slice b8 n8 c8)
        have hP10 := (hP8.setCell (a := ⟨yb, 0, none⟩) (fun k hk e => by obtain ⟨cs, hcs⟩ := hP8.blk_of hk; exact hY8.ne hcs typesWX e.symm) (.int .i64 RA)).setCell (a := ⟨yb, 1, none⟩) (fun k hk e => by obtain ⟨cs, hcs⟩ := hP8.blk_of hk; exact hY8.ne hcs typesWX e.symm) (.slice b8 n8 c8)
        have hbS : Below w.heap.size w8 ((w8.setCell ⟨yb, 0, none⟩ (.int .i64 RA)).setCell ⟨yb, 1, none⟩ (.slice b8 n8 c8)) := ((Below.refl _ _).setCell (show w.heap.size ≤ yb from by omega) _).setCell (show w.heap.size ≤ yb from by omega) _
        have hgr10 := belowKeeps hgr8 hbS (Nat.le_refl _)
        have hq10 := hq8.belowR hbS hgl
        refine rd1 13 (fun K hK => ?_)
        go_simp
        refine hK.out _ _ ?_ (fun hHeld => ?_)
        focus ((try dsimp only); (exact ⟨by rw [hX10.cell]; rfl, by rw [hX10.cell]; rfl, by rw [hV10.cell]; rfl, by rw [hV10.cell]; rfl⟩))
        clear hK K
        try simp only [Act.put, pa, pb, pc]
        clear d0 d1 df0 df1
        refine tk 14 ?_
        refine wpAnyH_done (by kernel_rfl) ?_ _
        go_wp2
        go_meet
        case rel => exact ⟨_, RA, b8, n8, c8, RX, RC, rfl, rfl, hY10.cast rfl, hP10, HK.out, hX10, hN10, hV10, hO10, hR10, hgr10, q7, by omega, by omega, hq10⟩
      ·
       have hb9 : Below w6.heap.size w6 (w6.alloc (.cells #[.int .i64 0, .slice none 0 0] 38)) := below_alloc (Below.refl _ _) _
       have hY9 := blkA w6 #[.int .i64 0, .slice none 0 0] 38
       have hXl9 := hX6.lt
       have hRl9 := hR6.lt
       have hgl9 := hq6.lt
       go_simp
       have hX9 := hX6.next hb9
       have hV9 := hV6.next hb9
       have hR9 := hR6.next hb9
       have hN9 := hN6.next hb9
       have hO9 := hO6.next hb9
       have hq9 := hq6.next hb9
       have hgr9 := grown_call hgr6 hb9
       have hA6 := hA6.next hb9
       refine hK.out _ _ ?_ (fun hHeld => ?_)
       focus ((try dsimp only); (exact ⟨by rw [hX9.cell]; rfl, by rw [hX9.cell]; rfl, by rw [hV9.cell]; rfl, by rw [hV9.cell]; rfl⟩))
       clear hK K
       try simp only [Act.put, pa, pb, pc]
       obtain ⟨yb, HYb⟩ : ∃ yb, Hid (w6.heap.size = yb) := ⟨_, Lib.hid rfl⟩
       have hyb1 : w.heap.size + 1 < yb := by have := HYb.out; omega
       have hyb2 : s < yb := by have := HYb.out; omega
       have hyb3 : g < yb := by have := HYb.out; omega
       rw [HYb.out] at hY9
       try rw [HYb.out]
       obtain ⟨w9, HW9⟩ : ∃ w9, Hid ((w6.alloc (.cells #[.int .i64 0, .slice none 0 0] 38)) = w9) := ⟨_, Lib.hid rfl⟩
       rw [HW9.out] at hHeld hX9 hV9 hR9 hY9 hN9 hO9 hq9 hgr9 hA6
       rw [HW9.out]
       refine rd1 7 (fun K hK => ?_)
       go_simp
       go_at_call 87; refine (write3_d g A n c q A6 c6 al _ hq9 (by omega) hfr (by omega) _ hl6 hA6).mono ?_; rintro e w7 ⟨x, rfl, hx, hd7⟩; obtain ⟨q7, h71, h72, hq7⟩ := hd7.rdr; have hX7 := hX9.drawn (by omega) hd7.grown; have hV7 := hV9.drawn (by omega) hd7.grown; have hR7 := hR9.drawn (by omega) hd7.grown; have hY7 := hY9.drawn (by omega) hd7.grown; have hN7 := hN9.drawn (show g < w.heap.size + 2 from by omega) hd7.grown; have hO7 := hO9.drawn hgb hd7.grown; have hgr7 := hgr9.trans hd7.grown; obtain ⟨RA, RX, RC, HRR⟩ : ∃ RA RX RC, Hid (wputA z l a lx = RA ∧ wputW z l a lx x = RX ∧ wputC z l a lx x = RC) := ⟨_, _, _, Lib.hid ⟨rfl, rfl, rfl⟩⟩; have HK : Hid (RC = 0 → FitXs RX ∧ FitI RA ∧ RX.length ≤ 6) := Lib.hid (fun e => by obtain ⟨p1, p2, p3, p4, p5, p6⟩ := put_fine (HRR.out.2.2.trans e); rw [← HRR.out.1, ← HRR.out.2.1, p5, p6]; exact ⟨FitXs.putXs hfx hx, hfa, p4.wr.len⟩)
       go_wp2_with fail
       refine hK.out _ _ ?_ (fun hHeld => ?_)
       focus ((try dsimp only); (exact ⟨by rw [hX7.cell]; rfl, by rw [hX7.cell]; rfl, by rw [hV7.cell]; rfl, by rw [hV7.cell]; rfl⟩))
       clear hK K
       try simp only [Act.put, pa, pb, pc]
       refine rd1 8 (fun K hK => ?_)
       go_simp
       go_at_call 30; refine (specWorkPutO hO7 hN7 hfit hfx hx (by omega) (by omega)).mono ?_; rw [HRR.out.1, HRR.out.2.1, HRR.out.2.2]; rintro e w8 ⟨v8, rfl, hP8, hb8⟩; have hs8 := hgr7.size; have hRl8 := hR7.lt; have hX8 := hX7.next hb8; have hV8 := hV7.next hb8; have hR8 := hR7.next hb8; have hY8 := hY7.next hb8; have hN8 := hN7.next hb8; have hO8 := hO7.next hb8; have hq8 := hq7.next hb8; have hgr8 := grown_call hgr7 hb8; have hP8 := hP8.low (show w.heap.size + 2 ≤ _ from by omega); obtain ⟨b8, n8, c8, rfl⟩ := hP8.slice
       go_wp2_with fail
       refine hK.out _ _ ?_ (fun hHeld => ?_)
       focus ((try dsimp only); (exact ⟨by rw [hX8.cell]; rfl, by rw [hX8.cell]; rfl, by rw [hV8.cell]; rfl, by rw [hV8.cell]; rfl⟩))
       clear hK K
       try simp only [Act.put, pa, pb, pc]
       refine tk 9 ?_
       refine tk 10 ?_
       refine tk 11 ?_
       have d0 : w8.cell? ⟨yb, 0, none⟩ = some (.int .i64 0) := (by rw [hY8.cell]; rfl)
       have d1 : w8.cell? ⟨yb, 1, none⟩ = some (.slice none 0 0) := (by rw [hY8.cell]; rfl)
       have df0 := hY8.free 0
       have df1 := hY8.free 1
       have hX10 := (hX8.setOther (a := ⟨yb, 0, none⟩) (show s ≠ yb from by omega) (.int .i64 RA)).setOther (a := ⟨yb, 1, none⟩) (show s ≠ yb from by omega) (.slice b8 n8 c8)
       have hV10 := (hV8.setOther (a := ⟨yb, 0, none⟩) (show w.heap.size ≠ yb from by omega) (.int .i64 RA)).setOther (a := ⟨yb, 1, none⟩) (show w.heap.size ≠ yb from by omega) (.slice b8 n8 c8)
       have hR10 := (hR8.setOther (a := ⟨yb, 0, none⟩) (show w.heap.size + 1 ≠ yb from by omega) (.int .i64 RA)).setOther (a := ⟨yb, 1, none⟩) (show w.heap.size + 1 ≠ yb from by omega) (.slice b8 n8 c8)
       have hY10 := (hY8.set_ 0 (.int .i64 RA)).set_ 1 (.slice b8 n8 c8)
       have hN10 := (hN8.setCell (a := ⟨yb, 0, none⟩) (fun k hk e => by obtain ⟨cs, hcs⟩ := hN8.blk_of hk; exact hY8.ne hcs typesWX e.symm) (.int .i64 RA)).setCell (a := ⟨yb, 1, none⟩) (fun k hk e => by obtain ⟨cs, hcs⟩ := hN8.blk_of hk; exact hY8.ne hcs typesWX e.symm) (.slice b8 n8 c8)
       have hO10 := (hO8.setCell (a := ⟨yb, 0, none⟩) (fun k hk e => by obtain ⟨cs, hcs⟩ := hO8.blk_of hk; exact hY8.ne hcs typesWV e.symm) (.int .i64 RA)).setCell (a := ⟨yb, 1, none⟩) (fun k hk e => by obtain ⟨cs, hcs⟩ := hO8.blk_of hk; exact hY8.ne hcs typesWV e.symm) (.slice b8 n8 c8)
       have hP10 := (hP8.setCell (a := ⟨yb, 0, none⟩) (fun k hk e => by obtain ⟨cs, hcs⟩ := hP8.blk_of hk; exact hY8.ne hcs typesWX e.symm) (.int .i64 RA)).setCell (a := ⟨yb, 1, none⟩) (fun k hk e => by obtain ⟨cs, hcs⟩ := hP8.blk_of hk; exact hY8.ne hcs typesWX e.symm) (.slice b8 n8 c8)
       have hbS : Below w.heap.size w8 ((w8.setCell ⟨yb, 0, none⟩ (.int .i64 RA)).setCell ⟨yb, 1, none⟩ (.slice b8 n8 c8)) := ((Below.refl _ _).setCell (show w.heap.size ≤ yb from by omega) _).setCell (show w.heap.size ≤ yb from by omega) _
       have hgr10 := belowKeeps hgr8 hbS (Nat.le_refl _)
       have hq10 := hq8.belowR hbS hgl
       refine rd1 13 (fun K hK => ?_)
       go_simp
       refine hK.out _ _ ?_ (fun hHeld => ?_)
       focus ((try dsimp only); (exact ⟨by rw [hX10.cell]; rfl, by rw [hX10.cell]; rfl, by rw [hV10.cell]; rfl, by rw [hV10.cell]; rfl⟩))
       clear hK K
       try simp only [Act.put, pa, pb, pc]
       clear d0 d1 df0 df1
       refine tk 14 ?_
       refine wpAnyH_done (by kernel_rfl) ?_ _
       go_wp2
       go_meet
       case rel => exact ⟨_, RA, b8, n8, c8, RX, RC, rfl, rfl, hY10.cast rfl, hP10, HK.out, hX10, hN10, hV10, hO10, hR10, hgr10, q7, by omega, by omega, hq10⟩
     ·
      have hb9 : Below wd.heap.size wd (wd.alloc (.cells #[.int .i64 0, .slice none 0 0] 38)) := below_alloc (Below.refl _ _) _
      have hY9 := blkA wd #[.int .i64 0, .slice none 0 0] 38
      have hXl9 := hX5.lt
      have hRl9 := hR5.lt
      have hgl9 := hq5.lt
      go_simp
      have hX9 := hX5.next hb9
      have hV9 := hV5.next hb9
      have hR9 := hR5.next hb9
      have hN9 := hN5.next hb9
      have hO9 := hO5.next hb9
      have hq9 := hq5.next hb9
      have hgr9 := grown_call hgr5 hb9
      refine hK.out _ _ ?_ (fun hHeld => ?_)
      focus ((try dsimp only); (exact ⟨by rw [hX9.cell]; rfl, by rw [hX9.cell]; rfl, by rw [hV9.cell]; rfl, by rw [hV9.cell]; rfl⟩))
      clear hK K
      try simp only [Act.put, pa, pb, pc]
      obtain ⟨yb, HYb⟩ : ∃ yb, Hid (wd.heap.size = yb) := ⟨_, Lib.hid rfl⟩
      have hyb1 : w.heap.size + 1 < yb := by have := HYb.out; omega
      have hyb2 : s < yb := by have := HYb.out; omega
      have hyb3 : g < yb := by have := HYb.out; omega
      rw [HYb.out] at hY9
      try rw [HYb.out]
      obtain ⟨w9, HW9⟩ : ∃ w9, Hid ((wd.alloc (.cells #[.int .i64 0, .slice none 0 0] 38)) = w9) := ⟨_, Lib.hid rfl⟩
      rw [HW9.out] at hHeld hX9 hV9 hR9 hY9 hN9 hO9 hq9 hgr9
      rw [HW9.out]
      refine rd1 6 (fun K hK => ?_)
      go_simp
      go_at_call 59; refine (specAt z A' c' l z _ hO9.rd'.2.1 (by omega) hO9.rd'.2.2.2).mono ?_; rw [HAL.out]; rintro e w6 ⟨v6, rfl, hA6, hb6⟩; have hX6 := hX9.next hb6; have hV6 := hV9.next hb6; have hR6 := hR9.next hb6; have hY6 := hY9.next hb6; have hN6 := hN9.next hb6; have hO6 := hO9.next hb6; have hq6 := hq9.next hb6; have hgr6 := grown_call hgr9 hb6; obtain ⟨A6, c6, rfl, hv1, hv2, hv3⟩ := hA6.read; clear hv1 hv2 hv3; have hl6 := hq9.lt
      go_wp2_with fail
      refine hK.out _ _ ?_ (fun hHeld => ?_)
      focus ((try dsimp only); (exact ⟨by rw [hX6.cell]; rfl, by rw [hX6.cell]; rfl, by rw [hV6.cell]; rfl, by rw [hV6.cell]; rfl⟩))
      clear hK K
      try simp only [Act.put, pa, pb, pc]
      refine rd1 7 (fun K hK => ?_)
      go_simp
      go_at_call 87; refine (write3_d g A n c q A6 c6 al _ hq6 (by omega) hfr (by omega) _ hl6 hA6).mono ?_; rintro e w7 ⟨x, rfl, hx, hd7⟩; obtain ⟨q7, h71, h72, hq7⟩ := hd7.rdr; have hX7 := hX6.drawn (by omega) hd7.grown; have hV7 := hV6.drawn (by omega) hd7.grown; have hR7 := hR6.drawn (by omega) hd7.grown; have hY7 := hY6.drawn (by omega) hd7.grown; have hN7 := hN6.drawn (show g < w.heap.size + 2 from by omega) hd7.grown; have hO7 := hO6.drawn hgb hd7.grown; have hgr7 := hgr6.trans hd7.grown; obtain ⟨RA, RX, RC, HRR⟩ : ∃ RA RX RC, Hid (wputA z l a lx = RA ∧ wputW z l a lx x = RX ∧ wputC z l a lx x = RC) := ⟨_, _, _, Lib.hid ⟨rfl, rfl, rfl⟩⟩; have HK : Hid (RC = 0 → FitXs RX ∧ FitI RA ∧ RX.length ≤ 6) := Lib.hid (fun e => by obtain ⟨p1, p2, p3, p4, p5, p6⟩ := put_fine (HRR.out.2.2.trans e); rw [← HRR.out.1, ← HRR.out.2.1, p5, p6]; exact ⟨FitXs.putXs hfx hx, hfa, p4.wr.len⟩)
      go_wp2_with fail
      refine hK.out _ _ ?_ (fun hHeld => ?_)
      focus ((try dsimp only); (exact ⟨by rw [hX7.cell]; rfl, by rw [hX7.cell]; rfl, by rw [hV7.cell]; rfl, by rw [hV7.cell]; rfl⟩))
      clear hK K
      try simp only [Act.put, pa, pb, pc]
      refine rd1 8 (fun K hK => ?_)
      go_simp
      go_at_call 30; refine (specWorkPutO hO7 hN7 hfit hfx hx (by omega) (by omega)).mono ?_; rw [HRR.out.1, HRR.out.2.1, HRR.out.2.2]; rintro e w8 ⟨v8, rfl, hP8, hb8⟩; have hs8 := hgr7.size; have hRl8 := hR7.lt; have hX8 := hX7.next hb8; have hV8 := hV7.next hb8; have hR8 := hR7.next hb8; have hY8 := hY7.next hb8; have hN8 := hN7.next hb8; have hO8 := hO7.next hb8; have hq8 := hq7.next hb8; have hgr8 := grown_call hgr7 hb8; have hP8 := hP8.low (show w.heap.size + 2 ≤ _ from by omega); obtain ⟨b8, n8, c8, rfl⟩ := hP8.slice
      go_wp2_with fail
      refine hK.out _ _ ?_ (fun hHeld => ?_)
      focus ((try dsimp only); (exact ⟨by rw [hX8.cell]; rfl, by rw [hX8.cell]; rfl, by rw [hV8.cell]; rfl, by rw [hV8.cell]; rfl⟩))
      clear hK K
      try simp only [Act.put, pa, pb, pc]
      refine tk 9 ?_
      refine tk 10 ?_
      refine tk 11 ?_
      have d0 : w8.cell? ⟨yb, 0, none⟩ = some (.int .i64 0) := (by rw [hY8.cell]; rfl)
      have d1 : w8.cell? ⟨yb, 1, none⟩ = some (.slice none 0 0) := (by rw [hY8.cell]; rfl)
      have df0 := hY8.free 0
      have df1 := hY8.free 1
      have hX10 := (hX8.setOther (a := ⟨yb, 0, none⟩) (show s ≠ yb from by omega) (.int .i64 RA)).setOther (a := ⟨yb, 1, none⟩) (show s ≠ yb from by omega) (.slice b8 n8 c8)
      have hV10 := (hV8.setOther (a := ⟨yb, 0, none⟩) (show w.heap.size ≠ yb from by omega) (.int .i64 RA)).setOther (a := ⟨yb, 1, none⟩) (show w.heap.size ≠ yb from by omega) (.slice b8 n8 c8)
      have hR10 := (hR8.setOther (a := ⟨yb, 0, none⟩) (show w.heap.size + 1 ≠ yb from by omega) (.int .i64 RA)).setOther (a := ⟨yb, 1, none⟩) (show w.heap.size + 1 ≠ yb from by omega) (.slice b8 n8 c8)
      have hY10 := (hY8.set_ 0 (.int .i64 RA)).set_ 1 (.slice b8 n8 c8)
      have hN10 := (hN8.setCell (a := ⟨yb, 0, none⟩) (fun k hk e => by obtain ⟨cs, hcs⟩ := hN8.blk_of hk; exact hY8.ne hcs typesWX e.symm) (.int .i64 RA)).setCell (a := ⟨yb, 1, none⟩) (fun k hk e => by obtain ⟨cs, hcs⟩ := hN8.blk_of hk; exact hY8.ne hcs typesWX e.symm) (.slice b8 n8 c8)
      have hO10 := (hO8.setCell (a := ⟨yb, 0, none⟩) (fun k hk e => by obtain ⟨cs, hcs⟩ := hO8.blk_of hk; exact hY8.ne hcs typesWV e.symm) (.int .i64 RA)).setCell (a := ⟨yb, 1, none⟩) (fun k hk e => by obtain ⟨cs, hcs⟩ := hO8.blk_of hk; exact hY8.ne hcs typesWV e.symm) (.slice b8 n8 c8)
      have hP10 := (hP8.setCell (a := ⟨yb, 0, none⟩) (fun k hk e => by obtain ⟨cs, hcs⟩ := hP8.blk_of hk; exact hY8.ne hcs typesWX e.symm) (.int .i64 RA)).setCell (a := ⟨yb, 1, none⟩) (fun k hk e => by obtain ⟨cs, hcs⟩ := hP8.blk_of hk; exact hY8.ne hcs typesWX e.symm) (.slice b8 n8 c8)
      have hbS : Below w.heap.size w8 ((w8.setCell ⟨yb, 0, none⟩ (.int .i64 RA)).setCell ⟨yb, 1, none⟩ (.slice b8 n8 c8)) := ((Below.refl _ _).setCell (show w.heap.size ≤ yb from by omega) _).setCell (show w.heap.size ≤ yb from by omega) _
      have hgr10 := belowKeeps hgr8 hbS (Nat.le_refl _)
      have hq10 := hq8.belowR hbS hgl
      refine rd1 13 (fun K hK => ?_)
      go_simp
      refine hK.out _ _ ?_ (fun hHeld => ?_)
      focus ((try dsimp only); (exact ⟨by rw [hX10.cell]; rfl, by rw [hX10.cell]; rfl, by rw [hV10.cell]; rfl, by rw [hV10.cell]; rfl⟩))
      clear hK K
      try simp only [Act.put, pa, pb, pc]
      clear d0 d1 df0 df1
      refine tk 14 ?_
      refine wpAnyH_done (by kernel_rfl) ?_ _
      go_wp2
      go_meet
      case rel => exact ⟨_, RA, b8, n8, c8, RX, RC, rfl, rfl, hY10.cast rfl, hP10, HK.out, hX10, hN10, hV10, hO10, hR10, hgr10, q7, by omega, by omega, hq10⟩
    case rest =>
     clear hX hN hV hO hR hgr hq x0 x1 y0 y1
     obtain ⟨g7, RA, b7, n7, c7, RX, k7, rfl, rfl, hY7, hP7, hK7, hX7, hN7, hV7, hO7, hR7, hgr7, q7, h71, h72, hq7⟩ := hcut
     by_cases hk7 : k7 = 0
     ·
      obtain ⟨hf7, hi7, hl7⟩ := hK7 hk7
      subst hk7
      have y0 : wc.cell? ⟨g7, 0, none⟩ = some (.int .i64 RA) := by rw [hY7.cell]; rfl
      have y1 : wc.cell? ⟨g7, 1, none⟩ = some (.slice b7 n7 c7) := by rw [hY7.cell]; rfl
      have x0 : wc.cell? ⟨s, 0, none⟩ = some (.int .i64 a) := by rw [hX7.cell]; rfl
      have x1 : wc.cell? ⟨s, 1, none⟩ = some (.slice b lx.length d) := by rw [hX7.cell]; rfl
      have xf0 := hX7.free 0
      have xf1 := hX7.free 1
      have hX9 := (hX7.set_ 0 (.int .i64 RA)).set_ 1 (.slice b7 n7 c7)
      have hV9 := (hV7.setOther (a := ⟨s, 0, none⟩) (show w.heap.size ≠ s from by omega) (.int .i64 RA)).setOther (a := ⟨s, 1, none⟩) (show w.heap.size ≠ s from by omega) (.slice b7 n7 c7)
      have hR9 := (hR7.setOther (a := ⟨s, 0, none⟩) (show w.heap.size + 1 ≠ s from by omega) (.int .i64 RA)).setOther (a := ⟨s, 1, none⟩) (show w.heap.size + 1 ≠ s from by omega) (.slice b7 n7 c7)
      have hP9 := (hP7.setCell (a := ⟨s, 0, none⟩) (fun k hk e => by obtain ⟨cs, hcs⟩ := hP7.blk_of hk; exact hX7.ne hcs typesWX e.symm) (.int .i64 RA)).setCell (a := ⟨s, 1, none⟩) (fun k hk e => by obtain ⟨cs, hcs⟩ := hP7.blk_of hk; exact hX7.ne hcs typesWX e.symm) (.slice b7 n7 c7)
      have hO9 := (hO7.setCell (a := ⟨s, 0, none⟩) (fun k hk e => by obtain ⟨cs, hcs⟩ := hO7.blk_of hk; exact hX7.ne hcs typesWV e.symm) (.int .i64 RA)).setCell (a := ⟨s, 1, none⟩) (fun k hk e => by obtain ⟨cs, hcs⟩ := hO7.blk_of hk; exact hX7.ne hcs typesWV e.symm) (.slice b7 n7 c7)
      have hbS : Below w.heap.size wc ((wc.setCell ⟨s, 0, none⟩ (.int .i64 RA)).setCell ⟨s, 1, none⟩ (.slice b7 n7 c7)) := ((Below.refl _ _).setCell (show w.heap.size ≤ s from by omega) _).setCell (show w.heap.size ≤ s from by omega) _
      have hgr9 := belowKeeps hgr7 hbS (Nat.le_refl _)
      have hq9 := hq7.belowR hbS hgl
      go_wp2
      go_roundw
      case rel => exact ⟨j - 1, RA, b7, n7, c7, RX, by omega, by go_num, hX9.cast rfl, hP9, hf7, hi7, hl7, hV9, hO9, hR9, hgr9, q7, by omega, by omega, hq9⟩
      case measure => simp [intOf]; omega
     ·
      have hk8 : (k7 == 0) = false := by simp [hk7]
      go_wp2
      go_roundw
      case rel => exact ⟨j - 1, a, b, _, d, lx, by omega, by go_num, hX7, hN7, hfx, hfa, hlx, hV7, hO7, hR7, hgr7, q7, by omega, by omega, hq7⟩
      case measure => simp [intOf]; omega
   ·
    have hj2 : decide ((0 : Int) < (j : Int)) = false := decide_eq_false (by omega)
    clear y0 y1
    have y0 : wr.cell? ⟨s, 0, none⟩ = some (.int .i64 a) := by rw [hX.cell]; rfl
    have y1 : wr.cell? ⟨s, 1, none⟩ = some (.slice b lx.length d) := by rw [hX.cell]; rfl
    have d0 : wr.cell? ⟨w.heap.size + 1, 0, none⟩ = some (.int .i64 0) := by rw [hR.cell]; rfl
    have d1 : wr.cell? ⟨w.heap.size + 1, 1, none⟩ = some (.slice none 0 0) := by rw [hR.cell]; rfl
    have f0 := hR.free 0
    have f1 := hR.free 1
    go_wp2
    refine bodyPost_ret (v := .agg #[.int .i64 a, .slice b lx.length d]) (by simp [results, Tryz.results126, go_sem, d0, d1]) rfl ⟨a, .slice b lx.length d, lx, rfl, ?_, hfx, hfa, hlx, ?_⟩
    ·
     have hne : ∀ g, (.slice b lx.length d : Value).ownBlock = some g → g ≠ w.heap.size + 1 := fun g hg => by have := (hN.block_lt hg).1; have := HAR.out; omega
     exact ((hN.setCell (a := ⟨w.heap.size + 1, 0, none⟩) hne _).setCell (a := ⟨w.heap.size + 1, 1, none⟩) hne _).low (by have := HAR.out; omega)
    ·
     exact ⟨hgS hgr, q, by omega, by omega, hqS hq⟩

end Go.Proofs.YtbeklnhngjmpiaaGreat
