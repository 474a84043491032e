/- The model's l2Do and VersDo.
The model's VersDo.
Chapter 2, plain mathematics: what the laws say of histories. -/
import Derived.Test.YtnijgbinjbikbaaGreatC2r
namespace Go.Proofs.YtnijgbinjbikbaaGreat
open Go.RowKit
set_option linter.unusedVariables false
set_option maxRecDepth 100000

theorem typesVV : (32 : TypeId) ≠ 68 := by decide
set_option maxHeartbeats 4000000 in
theorem l2Do_c (z : Int) (A : Option Addr) (c' : Nat) (l : List V) (B : Option Addr) (d : Nat) (ws : List X) (w : World) (hP : VersP z l) (hW : WritesP ws) (hfit : FitVs l) (hfx : FitXs ws) (hlw : ws.length ≤ d) (hr : RdG w w.heap.size A l) (hrx : RdG w w.heap.size B ws) :
  Calls Tryz.prog 71 #[.agg #[.int .i64 z, .slice A l.length c'], .slice B ws.length d] w (RetVB w (doZ z l ws) (doL z l ws) (doB z l ws)) := by
 have hz0 := hP.now0
 have hz1 := hP.now
 have hl0 := hP.len
 have hx0 := hW.len
 have HP := Lib.hid hP
 have HX := Lib.hid hW
 have HFD := Lib.hid (FitVs.doAll hfit hfx (fitI_small hz0 hz1))
 clear hP hW
 have hb0 : Below w.heap.size w ((w.alloc (.cells #[.int .i64 z, .slice A l.length c'] 32)).alloc (.cells #[.int .i64 0, .slice none 0 0] 32)) := below_alloc (below_alloc (Below.refl _ _) _) _
 have hB0 := (blkA w #[.int .i64 z, .slice A l.length c'] 32).alloc (.cells #[.int .i64 0, .slice none 0 0] 32)
 have hR0 := blkA (w.alloc (.cells #[.int .i64 z, .slice A l.length c'] 32)) #[.int .i64 0, .slice none 0 0] 32
 have hsz : ((w.alloc (.cells #[.int .i64 z, .slice A l.length c'] 32)).alloc (.cells #[.int .i64 0, .slice none 0 0] 32)).heap.size = w.heap.size + 2 := by simp
 simp only [World.size_alloc] at hR0
 obtain ⟨wn, HW⟩ : ∃ wn, Hid ((w.alloc (.cells #[.int .i64 z, .slice A l.length c'] 32)).alloc (.cells #[.int .i64 0, .slice none 0 0] 32) = wn) := ⟨_, Lib.hid rfl⟩
 rw [HW.out] at hb0 hB0 hR0 hsz
 have q0 : wn.cell? ⟨w.heap.size, 0, none⟩ = some (.int .i64 z) := by rw [hB0.cell]; rfl
 have q1 : wn.cell? ⟨w.heap.size, 1, none⟩ = some (.slice A l.length c') := by rw [hB0.cell]; rfl
 obtain ⟨RZ, RL, RB, HRR⟩ : ∃ RZ RL RB, Hid (doZ z l ws = RZ ∧ doL z l ws = RL ∧ doB z l ws = RB) := ⟨_, _, _, Lib.hid ⟨rfl, rfl, rfl⟩⟩
 rw [HRR.out.1, HRR.out.2.1, HRR.out.2.2]
 go_enter Tryz.func71, Tryz.ntmps71
 go_wp2_with fail
 rw [HW.out]
 refine (l2Copy_c z A c' l wn (by omega) (hr.next hb0)).mono ?_
 rintro e w1 ⟨v1, rfl, hO1, hb1⟩
 have hw1 := below_next hb0 hb1
 obtain ⟨b1, n1, c1, rfl⟩ := hO1.slice
 have hR1 := hR0.next hb1
 have hB1 := hB0.next hb1
 have hs1 := hb1.size
 have hb2 : Below w1.heap.size w1 (w1.alloc (.cells #[.int .i64 z, .slice b1 n1 c1] 32)) := below_alloc (Below.refl _ _) _
 have hX2 := blkA w1 #[.int .i64 z, .slice b1 n1 c1] 32
 have hR2 := hR1.next hb2
 have hB2 := hB1.next hb2
 have hw2 := below_next hw1 hb2
 have hO2 := hO1.next hb2
 obtain ⟨s, HS, hs⟩ : ∃ s, Hid (w1.heap.size = s) ∧ w.heap.size + 2 ≤ s := ⟨_, Lib.hid rfl, by omega⟩
 rw [HS.out] at hX2
 have hb3 : Below w1.heap.size w1 (w1.alloc (.cells #[.int .i64 (z + 1), .slice b1 n1 c1] 32)) := below_alloc (Below.refl _ _) _
 have hX3 := blkA w1 #[.int .i64 (z + 1), .slice b1 n1 c1] 32
 rw [HS.out] at hX3
 have hR3 := hR1.next hb3
 have hB3 := hB1.next hb3
 have hw3 := below_next hw1 hb3
 have hO3 := hO1.next hb3
 have HAR : Hid (w.heap.size + 2 ≤ s ∧ wn.heap.size = w.heap.size + 2) := ⟨hs, hsz⟩
 have g0 : w1.cell? ⟨w.heap.size, 0, none⟩ = some (.int .i64 z) := by rw [hB1.cell]; rfl
 have g1 : (w1.alloc (.cells #[.int .i64 z, .slice b1 n1 c1] 32)).cell? ⟨w.heap.size, 0, none⟩ = some (.int .i64 z) := by rw [hB2.cell]; rfl
 have g2 : (w1.alloc (.cells #[.int .i64 z, .slice b1 n1 c1] 32)).cell? ⟨s, 0, none⟩ = some (.int .i64 z) := by rw [hX2.cell]; rfl
 have g3 := hX2.free 0
 go_wp2
 rw [HS.out]
 clear g0 g1 g2 g3 q0 q1
 go_loopw [7] (fun i W => ∃ (k : Nat) (b : Option Addr) (n c : Nat), k ≤ ws.length ∧ i = .int .i64 k ∧ Blk W s 32 #[.int .i64 (z + 1), .slice b n c] ∧ OwnG W wn.heap.size (.slice b n c) (doAll l (ws.take k) (z + 1)) ∧ Blk W w.heap.size 32 #[.int .i64 z, .slice A l.length c'] ∧ Blk W (w.heap.size + 1) 32 #[.int .i64 0, .slice none 0 0] ∧ Below w.heap.size w W) (fun i _ => ws.length - (intOf i).toNat)
 case atStart => exact ⟨0, b1, n1, c1, Nat.zero_le _, rfl, hX3, hO3, hB3, hR3, hw3⟩
 case round =>
  obtain ⟨k, A1, m1, c1, hk, rfl, hX, hO, hB, hR, hb⟩ := hrel
  have HLD := Lib.hid (doAll_length (ws.take k) l (z + 1))
  by_cases hkl : k < ws.length
  ·
   obtain ⟨b, o, rfl, hbB, hc0, hc1, hc2⟩ := (hrx.below hb).atX hkl
   have hkI := lenI _ _ hkl
   have HST := Lib.hid (doAll_succ (l := l) (z := z + 1) hkl)
   have hdl : (doAll l (ws.take k) (z + 1)).length ≤ 1048576 := by have := HLD.out; have := List.length_take (l := ws) (i := k); omega
   obtain ⟨DL, HD⟩ : ∃ DL, Hid (doAll l (ws.take k) (z + 1) = DL) := ⟨_, Lib.hid rfl⟩
   rw [HD.out] at hO hdl
   obtain ⟨hx1, hx2, hx3, hx4⟩ := hO.rd'
   clear hx2 hx3 hx4
   subst hx1
   have x0 : wr.cell? ⟨s, 0, none⟩ = some (.int .i64 (z + 1)) := by rw [hX.cell]; rfl
   have x1 : wr.cell? ⟨s, 1, none⟩ = some (.slice A1 DL.length c1) := by rw [hX.cell]; rfl
   have hOd : OwnG wr.drew wn.heap.size (.slice A1 DL.length c1) DL := hO
   have hXd : Blk wr.drew s 32 #[.int .i64 (z + 1), .slice A1 DL.length c1] := hX
   have hbs : wn.heap.size ≤ wr.drew.heap.size := by have := hX.lt; have := HAR.out; show _ ≤ wr.heap.size; omega
   have HNX : Hid (¬ (Value.slice A1 DL.length c1).ownBlock = some s) := fun e => by obtain ⟨cs, hcs⟩ := hO.blk_of e; exact hX.ne hcs typesVV rfl
   have HLT : Hid (∀ p, p < w.heap.size → p < wr.drew.heap.size) := fun p hp => by have := hb.size; show p < wr.heap.size; omega
   have HNB : Hid (∀ p, p < w.heap.size + 2 → ¬ (Value.slice A1 DL.length c1).ownBlock = some p) := fun p hp e => by have := (hO.block_lt e).1; have := HAR.out; omega
   have HNC : Hid (∀ p, p < w.heap.size → ¬ (Value.slice A1 DL.length c1).ownBlock = some p) := fun p hp => HNB.out p (by omega)
   have HBA : Hid (∀ {w6 : World}, Chg (fun b => (Value.slice A1 DL.length c1).ownBlock = some b) wr.drew w6 → Below w.heap.size wr w6 ∧ Blk w6 w.heap.size 32 #[.int .i64 z, .slice A l.length c'] ∧ Blk w6 (w.heap.size + 1) 32 #[.int .i64 0, .slice none 0 0]) := fun {w6} h =>
    ⟨((Below.refl w.heap.size wr).drew).trans (h.toBelow hb.size (fun q hq => by have := (hO.block_lt hq).1; have := HAR.out; omega)), (show Blk wr.drew _ _ _ from hB).chg h (HNB.out _ (by omega)), (show Blk wr.drew _ _ _ from hR).chg h (HNB.out _ (by omega))⟩
   go_wp2
   refine wp_region_held_drew (S := (fun W => W.cell? ⟨s, 0, none⟩ = some (.int .i64 (z + 1)) ∧ W.cell? ⟨b, o + k * 3, none⟩ = some (.string ws[k].k) ∧ W.cell? ⟨b, o + k * 3 + 1, none⟩ = some (.int .i64 ws[k].n) ∧ W.cell? ⟨b, o + k * 3 + 2, none⟩ = some (.bool ws[k].g))) (by kernel_rfl) ?_ (fun hHeld => ?_)
   focus ((try dsimp only); (exact ⟨x0, hc0, hc1, hc2⟩))
   refine tk 0 ?_
   refine tk 2 ?_
   refine tk 3 ?_
   refine tk 4 ?_
   refine tk 5 ?_
   refine tk 6 ?_
   refine tk 7 ?_
   refine rd1 1 (fun K hK => ?_)
   go_simp
   refine hK.out _ _ ?_ (fun hHeld => ?_)
   focus ((try dsimp only); (exact ⟨x0, hc0, hc1, hc2⟩))
   clear hK K
   try simp only [Act.put, pa, pb, pc]
   (refine rd1 8 (fun K hK => ?_); go_simp; (go_at_call 101; refine (l2Write_c wn.heap.size A1 c1 DL ws[k] (z + 1) _ hOd hbs hdl).mono ?_; rintro e w6 ⟨v6, rfl, hO6, hch6⟩; have hX6 := hXd.chg hch6 HNX.out; have HKP : Hid (∀ (p : Addr) (u : Value), p.block < w.heap.size → wr.cell? p = some u → w6.cell? p = some u) := fun p u hp hu => (World.cell?_of_block (a := p) (hch6.block p.block (HLT.out _ hp) (HNC.out _ hp))).trans hu; obtain ⟨b6, n6, c6, rfl⟩ := hO6.slice; have x61 : w6.cell? ⟨s, 1, none⟩ = some (.slice A1 DL.length c1) := (by rw [hX6.cell]; rfl); have f61 := hX6.free 1; have hbA := HBA.out hch6); go_wp2_with fail; refine hK.out _ _ ?_ (fun hHeld => ?_); (focus ((try dsimp only); (exact ⟨by rw [hX6.cell]; rfl, HKP.out ⟨b, o + k * 3, none⟩ _ hbB hc0, HKP.out ⟨b, o + k * 3 + 1, none⟩ _ hbB hc1, HKP.out ⟨b, o + k * 3 + 2, none⟩ _ hbB hc2⟩))); clear hK K; (try simp only [Act.put, pa, pb, pc]))
   have hX7 : Blk (w6.setCell ⟨s, 1, none⟩ (.slice b6 n6 c6)) s 32 #[.int .i64 (z + 1), .slice b6 n6 c6] := (hX6.set_ 1 _).cast rfl
   have HK7 : Hid (∀ (p : Addr) (u : Value), p.block < w.heap.size → wr.cell? p = some u → (w6.setCell ⟨s, 1, none⟩ (.slice b6 n6 c6)).cell? p = some u) := fun p u hp hu => (World.cell?_of_block (a := p) (Below.heap_setCell w6 ⟨s, 1, none⟩ _ p.block (show p.block ≠ s from by have := HAR.out; omega))).trans (HKP.out p u hp hu)
   refine tk 9 ?_
   refine rd1 10 (fun K hK => ?_)
   go_simp
   refine hK.out _ _ ?_ (fun hHeld => ?_)
   focus ((try dsimp only); (exact ⟨by rw [hX7.cell]; rfl, HK7.out ⟨b, o + k * 3, none⟩ _ hbB hc0, HK7.out ⟨b, o + k * 3 + 1, none⟩ _ hbB hc1, HK7.out ⟨b, o + k * 3 + 2, none⟩ _ hbB hc2⟩))
   clear hK K
   try simp only [Act.put, pa, pb, pc]
   refine wpAnyH_done (by kernel_rfl) ?_ _
   obtain ⟨hbA1, hbA2, hbA3⟩ := hbA
   have hO7 := hO6.setCell (a := ⟨s, 1, none⟩) (fun g hg e => by obtain ⟨cs, hcs⟩ := hO6.blk_of hg; exact hX6.ne hcs typesVV e.symm) (.slice b6 n6 c6)
   have hB7 := hbA2.setOther (a := ⟨s, 1, none⟩) (show w.heap.size ≠ s from by have := HAR.out; omega) (.slice b6 n6 c6)
   have hR7 := hbA3.setOther (a := ⟨s, 1, none⟩) (show w.heap.size + 1 ≠ s from by have := HAR.out; omega) (.slice b6 n6 c6)
   have hb7 : Below w.heap.size w (w6.setCell ⟨s, 1, none⟩ (.slice b6 n6 c6)) := (hb.trans hbA1).setCell (show w.heap.size ≤ s from by have := HAR.out; omega) _
   go_wp2
   go_roundw
   case rel => exact ⟨k + 1, b6, n6, c6, by omega, by go_num, hX7, by rw [HST.out, HD.out]; exact hO7, hB7, hR7, hb7⟩
   case measure => simp [intOf]; omega
  ·
   have hkI : decide ((k : Int) < (ws.length : Int)) = false := decide_eq_false (by omega)
   have e : ws.take k = ws := List.take_of_length_le (by omega)
   rw [e] at hO HLD
   clear e
   cases hd : versB (z + 1) (doAll l ws (z + 1))
   ·
    have HE := Lib.hid (do_no (ws := ws) (versB_yes HP.out) (by rw [hd, Bool.and_false]))
    have HQ : Hid (RZ = z ∧ RL = l ∧ RB = false) := ⟨HRR.out.1.symm.trans HE.out.2.1, HRR.out.2.1.symm.trans HE.out.2.2, HRR.out.2.2.symm.trans HE.out.1⟩
    obtain ⟨DL, HD⟩ : ∃ DL, Hid (doAll l ws (z + 1) = DL) := ⟨_, Lib.hid rfl⟩
    have hfD := HFD.out
    rw [HD.out] at hO hd hfD
    obtain ⟨hx1, hx2, hx3, hx4⟩ := hO.rd'
    subst hx1
    have x0 : wr.cell? ⟨s, 0, none⟩ = some (.int .i64 (z + 1)) := by rw [hX.cell]; rfl
    have x1 : wr.cell? ⟨s, 1, none⟩ = some (.slice A1 DL.length c1) := by rw [hX.cell]; rfl
    go_wp2_with fail
    refine (specVersOk (z + 1) A1 c1 DL wr hfD hx2 hx3 hx4).mono ?_
    rintro e w4 ⟨rfl, hb4⟩
    rw [hd]
    have hw4 := hb.trans (hb4.mono hb.size)
    have hB4 := hB.next hb4
    have hR4 := hR.next hb4
    have y0 : w4.cell? ⟨w.heap.size, 0, none⟩ = some (.int .i64 z) := by rw [hB4.cell]; rfl
    have y1 : w4.cell? ⟨w.heap.size, 1, none⟩ = some (.slice A l.length c') := by rw [hB4.cell]; rfl
    go_wp2_with fail
    refine (l2Copy_c z A c' l _ (by omega) (hr.next hw4)).mono ?_
    rintro e w5 ⟨v5, rfl, hO5, hb5⟩
    have hR5 := hR4.next hb5
    have hw5 := below_next hw4 hb5
    have hs4 := hw4.size
    have hRl := hR4.lt
    obtain ⟨b5, n5, c5, rfl⟩ := hO5.slice
    have d0 : w5.cell? ⟨w.heap.size + 1, 0, none⟩ = some (.int .i64 0) := by rw [hR5.cell]; rfl
    have d1 : w5.cell? ⟨w.heap.size + 1, 1, none⟩ = some (.slice none 0 0) := by rw [hR5.cell]; rfl
    have f0 := hR5.free 0
    have f1 := hR5.free 1
    go_wp2
    refine bodyPost_ret (v := .tuple #[.agg #[.int .i64 z, .slice b5 n5 c5], .bool false]) (by simp [results, Tryz.results71, go_sem, d0, d1]) rfl ⟨.slice b5 n5 c5, by rw [HQ.out.1, HQ.out.2.2], ?_, ?_⟩
    ·
     have hne : ∀ g, (.slice b5 n5 c5 : Value).ownBlock = some g → g ≠ w.heap.size + 1 := fun g hg => by have := (hO5.block_lt hg).1; omega
     rw [HQ.out.2.1]
     exact ((hO5.setCell (a := ⟨w.heap.size + 1, 0, none⟩) hne _).setCell (a := ⟨w.heap.size + 1, 1, none⟩) hne _).low hs4
    ·
     exact (hw5.setCell (by simp <;> omega) _).setCell (by simp <;> omega) _
   ·
    have HE := Lib.hid (do_yes (ws := ws) (versB_yes HP.out) (writesB_yes HX.out) hd)
    have HQ : Hid (RZ = z + 1 ∧ RL = doAll l ws (z + 1) ∧ RB = true) := ⟨HRR.out.1.symm.trans HE.out.2.1, HRR.out.2.1.symm.trans HE.out.2.2, HRR.out.2.2.symm.trans HE.out.1⟩
    obtain ⟨DL, HD⟩ : ∃ DL, Hid (doAll l ws (z + 1) = DL) := ⟨_, Lib.hid rfl⟩
    have hfD := HFD.out
    rw [HD.out] at hO hd hfD HQ
    obtain ⟨hx1, hx2, hx3, hx4⟩ := hO.rd'
    subst hx1
    have x0 : wr.cell? ⟨s, 0, none⟩ = some (.int .i64 (z + 1)) := by rw [hX.cell]; rfl
    have x1 : wr.cell? ⟨s, 1, none⟩ = some (.slice A1 DL.length c1) := by rw [hX.cell]; rfl
    go_wp2_with fail
    refine (specVersOk (z + 1) A1 c1 DL wr hfD hx2 hx3 hx4).mono ?_
    rintro e w4 ⟨rfl, hb4⟩
    rw [hd]
    have hw4 := hb.trans (hb4.mono hb.size)
    have hX4 := hX.next hb4
    have hR4 := hR.next hb4
    have hO4 := hO.next hb4
    have y0 : w4.cell? ⟨s, 0, none⟩ = some (.int .i64 (z + 1)) := by rw [hX4.cell]; rfl
    have y1 : w4.cell? ⟨s, 1, none⟩ = some (.slice A1 DL.length c1) := by rw [hX4.cell]; rfl
    have hRl := hR4.lt
    have d0 : w4.cell? ⟨w.heap.size + 1, 0, none⟩ = some (.int .i64 0) := by rw [hR4.cell]; rfl
    have d1 : w4.cell? ⟨w.heap.size + 1, 1, none⟩ = some (.slice none 0 0) := by rw [hR4.cell]; rfl
    have f0 := hR4.free 0
    have f1 := hR4.free 1
    go_wp2
    refine bodyPost_ret (v := .tuple #[.agg #[.int .i64 (z + 1), .slice A1 DL.length c1], .bool true]) (by simp [results, Tryz.results71, go_sem, d0, d1]) rfl ⟨.slice A1 DL.length c1, by rw [HQ.out.1, HQ.out.2.2], ?_, ?_⟩
    ·
     have hne : ∀ g, (.slice A1 DL.length c1 : Value).ownBlock = some g → g ≠ w.heap.size + 1 := fun g hg => by have := (hO4.block_lt hg).1; omega
     rw [HQ.out.2.1]
     exact ((hO4.setCell (a := ⟨w.heap.size + 1, 0, none⟩) hne _).setCell (a := ⟨w.heap.size + 1, 1, none⟩) hne _).low (by omega)
    ·
     exact (hw4.setCell (by simp <;> omega) _).setCell (by simp <;> omega) _

end Go.Proofs.YtnijgbinjbikbaaGreat

namespace Go.Proofs.YtnijgbinjbikbaaGreat
open Go.RowKit
set_option linter.unusedVariables false
set_option maxRecDepth 100000

end Go.Proofs.YtnijgbinjbikbaaGreat

namespace Go.Proofs.YtnijgbinjbikbaaGreat
open Go.RowKit
set_option linter.unusedVariables false

theorem versP_mem {z : Int} {l : List V} (h : VersP z l) {x : V} (hx : x ∈ l) : verB z x = true := by
 obtain ⟨i, hi, rfl⟩ := List.getElem_of_mem hx
 exact h.each i hi
theorem verB_f {z : Int} {x : V} (h : verB z x = true) : 1 ≤ x.f ∧ x.f ≤ z ∧ (x.t = 0 ∨ x.f < x.t ∧ x.t ≤ z) := by
 unfold verB at h
 simp only [Bool.and_eq_true, Bool.or_eq_true, decide_eq_true_eq] at h
 omega
/-- what stands at the last time stands later -/
theorem vis_later {z t : Int} {x : V} (h : verB z x = true) (ht : z ≤ t) : visB t x = visB z x := by
 have := verB_f h
 unfold visB
 rw [Bool.eq_iff_iff]
 simp only [Bool.and_eq_true, Bool.or_eq_true, decide_eq_true_eq]
 omega
theorem at_later {z t : Int} {l : List V} (h : ∀ x ∈ l, verB z x = true) (ht : z ≤ t) : atL l t = atL l z := by
 unfold atL
 rw [List.filter_congr (fun x hx => vis_later (h x hx) ht)]
theorem versAt_ok {z t : Int} {l : List V} (h : versB z l = true) (h0 : 0 ≤ t) (h1 : t ≤ z) : versAt z l t = atL l t := by
 unfold versAt
 rw [h]
 simp [h0, h1]
theorem none_do {z : Int} {l : List V} (h : doB z l [] = true) : doZ z l [] = z + 1 ∧ doL z l [] = l ∧ versB z l = true ∧ versB (z + 1) l = true ∧ versAt (z + 1) l (z + 1) = versAt z l z ∧ z < 40 := by
 have hb := h
 unfold doB at h
 simp only [Bool.and_eq_true] at h
 obtain ⟨⟨h1, h2⟩, h3⟩ := h
 have h3' : versB (z + 1) l = true := h3
 have hP := versB_iff.1 h1
 have hP' := versB_iff.1 h3'
 have hn := hP'.now
 have hn0 := hP.now0
 obtain ⟨e1, e2, e3⟩ := do_yes h1 h2 h3
 refine ⟨e2, e3, h1, h3', ?_, by omega⟩
 rw [versAt_ok h3' (by omega) (by omega), versAt_ok h1 hn0 (by omega)]
 exact at_later (fun x hx => versP_mem hP hx) (by omega)

end Go.Proofs.YtnijgbinjbikbaaGreat
