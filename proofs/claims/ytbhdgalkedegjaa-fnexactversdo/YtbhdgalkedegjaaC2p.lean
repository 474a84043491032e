/- The program's commit and VersDo. -/
import Derived.Test.YtbhdgalkedegjaaC2o
namespace Go.Proofs.Ytbhdgalkedegjaa
open Go.RowKit
set_option linter.unusedVariables false
set_option maxRecDepth 100000

/-- the time goes on -/
theorem Sto.setNow {w : World} {base s : Nat} {z : Int} {chs : List Ch} (h : Sto w base s z chs) (z' : Int) : Sto (w.setCell ⟨s, 0, none⟩ (.int .i64 z')) base s z' chs := by
  obtain ⟨v, hB, hO⟩ := h.blk
  have hch : Chg (fun b => b = s) w (w.setCell ⟨s, 0, none⟩ (.int .i64 z')) := (Chg.refl (fun b => b = s) w).setCell (a := ⟨s, 0, none⟩) (.inl rfl) _
  refine ⟨⟨v, (hB.set_ 0 _).cast rfl, hO.setCell (a := ⟨s, 0, none⟩) (fun g hg e => ?_) _⟩, fun c hc => (h.cok c hc).chg hch fun b hb => (h.cok c hc).ne_of hB typesSC typesSL b hb, h.dis, h.lo, h.los⟩
  obtain ⟨cs, hbk⟩ := hO.blk_of hg
  exact hB.ne hbk typesSP e.symm

theorem writeL_length (l : List V) (x : X) (z : Int) : (writeL l x z).length ≤ l.length + 1 := by
  unfold writeL
  split
  · simp
  · simp only [List.length_append, List.length_take, List.length_drop, List.length_map, List.length_cons, List.length_nil]; omega
theorem doAll_length : (ws : List X) → (l : List V) → (z : Int) → (doAll l ws z).length ≤ l.length + ws.length
  | [], l, z => by simp [doAll]
  | x :: ws, l, z => by
    have h1 := doAll_length ws (writeL l x z) z
    have h2 := writeL_length l x z
    show (doAll (writeL l x z) ws z).length ≤ _
    rw [List.length_cons]; omega
theorem doAll_succ {l : List V} {ws : List X} {z : Int} {k : Nat} (hk : k < ws.length) : doAll l (ws.take (k + 1)) z = writeL (doAll l (ws.take k) z) ws[k] z := by
  unfold doAll
  rw [List.take_succ_eq_append_getElem hk, List.foldl_append]; rfl
theorem FitVs.write {l : List V} {x : X} {z : Int} (h : FitVs l) (hx : FitX x) (hz : FitI z) : FitVs (writeL l x z) := by
  have h1 : ∀ v ∈ l.map (endF x.k z), FitV v := by
    intro v hv
    obtain ⟨u, hu, rfl⟩ := List.mem_map.1 hv
    have := h u hu
    unfold endF endV
    obtain ⟨a1, a2, a3, a4, a5, a6, a7⟩ := this
    split
    · split
      · exact ⟨a1, a2, a3, a4, a5, hz.1, hz.2⟩
      · exact ⟨a1, a2, a3, a4, a5, a6, a7⟩
    · exact ⟨a1, a2, a3, a4, a5, a6, a7⟩
  unfold writeL
  split
  · exact h1
  · intro v hv
    simp only [List.mem_append, List.mem_singleton] at hv
    rcases hv with (hv | rfl) | hv
    · exact h1 v (List.mem_of_mem_take hv)
    · exact ⟨hx.1, hx.2.1, hx.2.2, hz.1, hz.2, by show (-9223372036854775808 : Int) ≤ 0; omega, by show (0 : Int) ≤ 9223372036854775807; omega⟩
    · exact h1 v (List.mem_of_mem_drop hv)
theorem FitVs.doAll : {ws : List X} → {l : List V} → {z : Int} → FitVs l → FitXs ws → FitI z → FitVs (Go.Proofs.Ytbhdgalkedegjaa.doAll l ws z)
  | [], l, z, h, _, _ => h
  | x :: ws, l, z, h, hx, hz => FitVs.doAll (ws := ws) (FitVs.write h (hx x (by simp)) hz) (fun r hr => hx r (by simp [hr])) hz
theorem fitI_small {z : Int} (h0 : 0 ≤ z) (h1 : z ≤ 40) : FitI (z + 1) := ⟨by omega, by omega⟩

/-- the call returns a history in new memory, and a word -/
def RetVB (w : World) (z : Int) (l : List V) (b : Bool) (e : Ending) (w' : World) : Prop := ∃ v, e = .returned (.tuple #[.agg #[.int .i64 z, v], .bool b]) ∧ OwnG w' w.heap.size v l ∧ Below w.heap.size w w'

set_option maxHeartbeats 4000000 in
theorem commit_c (z : Int) (A : Option Addr) (c : Nat) (l : List V) (B : Option Addr) (d : Nat) (ws : List X) (w : World) (hP : VersP z l) (hW : WritesP ws) (hfit : FitVs l) (hfx : FitXs ws) (hr : RdG w w.heap.size A l) (hrx : RdG w w.heap.size B ws) :
    Calls Try.prog 85 #[.agg #[.int .i64 z, .slice A l.length c], .slice B ws.length d] w (RetVB w (z + 1) (doAll l ws (z + 1)) (versB (z + 1) (doAll l ws (z + 1)))) := by
  have hz0 := hP.now0
  have hz1 := hP.now
  have hl0 := hP.len
  have hx0 := hW.len
  have HO := Lib.hid hP.ord2
  have HFD := Lib.hid (FitVs.doAll hfit hfx (fitI_small hz0 hz1))
  have HLD := Lib.hid (doAll_length ws l (z + 1))
  have hzo : decide (z + 1 = 0) = false := decide_eq_false (by omega)
  clear hP hW
  have hb0 : Below w.heap.size w ((w.alloc (.cells #[.int .i64 z, .slice A l.length c] 29)).alloc (.cells #[.int .i64 0, .slice none 0 0] 29)) := below_alloc (below_alloc (Below.refl _ _) _) _
  have hB0 := (blkA w #[.int .i64 z, .slice A l.length c] 29).alloc (.cells #[.int .i64 0, .slice none 0 0] 29)
  have hR0 := blkA (w.alloc (.cells #[.int .i64 z, .slice A l.length c] 29)) #[.int .i64 0, .slice none 0 0] 29
  have hsz : ((w.alloc (.cells #[.int .i64 z, .slice A l.length c] 29)).alloc (.cells #[.int .i64 0, .slice none 0 0] 29)).heap.size = w.heap.size + 2 := by simp
  simp only [World.size_alloc] at hR0
  obtain ⟨wn, HW⟩ : ∃ wn, Hid ((w.alloc (.cells #[.int .i64 z, .slice A l.length c] 29)).alloc (.cells #[.int .i64 0, .slice none 0 0] 29) = wn) := ⟨_, Lib.hid rfl⟩
  rw [HW.out] at hb0 hB0 hR0 hsz
  have q0 : wn.cell? ⟨w.heap.size, 0, none⟩ = some (.int .i64 z) := by rw [hB0.cell]; rfl
  have q1 : wn.cell? ⟨w.heap.size, 1, none⟩ = some (.slice A l.length c) := by rw [hB0.cell]; rfl
  go_enter Try.func85, Try.ntmps85
  go_wp2_with fail
  rw [HW.out]
  refine (storageOf_c z A c l wn (by omega) HO.out.keyLe (hr.next hb0)).mono ?_
  rintro e w1 ⟨s, chs, rfl, hS, hC, hb1⟩
  have hw1 := below_next hb0 hb1
  have hR1 := hR0.next hb1
  have hCl := hC.length
  have HC1 := Lib.hid (hC.toE HO.out)
  obtain ⟨v0, hBs, hOs⟩ := hS.blk
  have s0 : w1.cell? ⟨s, 0, none⟩ = some (.int .i64 z) := by rw [hBs.cell]; rfl
  have sf := hBs.free 0
  have hslt := hS.lt
  have hslo := hS.lo
  have hS2 := hS.setNow (z + 1)
  have hR2 := hR1.setOther (a := ⟨s, 0, none⟩) (show w.heap.size + 1 ≠ s from by omega) (.int .i64 (z + 1))
  have hw2 : Below w.heap.size w (w1.setCell ⟨s, 0, none⟩ (.int .i64 (z + 1))) := hw1.setCell (show w.heap.size ≤ s from by omega) _
  have HAR : Hid (wn.heap.size = w.heap.size + 2 ∧ chs.length ≤ l.length ∧ wn.heap.size ≤ s) := ⟨hsz, hCl, hslo⟩
  have HSt := Lib.hid hS2
  clear hS hC hBs hOs hCl hslo hS2
  go_wp2
  clear s0 sf hslt hzo q0 q1
  go_loopw [21] (fun i W => ∃ k : Nat, k ≤ ws.length ∧ i = .int .i64 k ∧ ∃ ch2, Sto W wn.heap.size s (z + 1) ch2 ∧ ConsE ch2 (doAll l (ws.take k) (z + 1)) ∧ ch2.length ≤ l.length + k ∧ Blk W (w.heap.size + 1) 29 #[.int .i64 0, .slice none 0 0] ∧ Below w.heap.size w W) (fun i _ => ws.length - (intOf i).toNat)
  case atStart => exact ⟨0, Nat.zero_le _, rfl, chs, HSt.out, HC1.out, by have := HAR.out.2.1; omega, hR2, hw2⟩
  case round =>
    obtain ⟨k, hkl0, rfl, ch2, hS, hC, hcl, hR, hb⟩ := hrel
    have HCE := Lib.hid hC
    have HCL := Lib.hid hcl
    clear hcl
    by_cases hkl : k < ws.length
    · obtain ⟨b, o, rfl, hbB, hc0, hc1, hc2⟩ := (hrx.below hb).atX hkl
      have hkI := lenI _ _ hkl
      have hbX : Below wr.heap.size wr (wr.alloc (.cells #[.string ws[k].k, .int .i64 ws[k].n, .bool ws[k].g] 58)) := below_alloc (Below.refl _ _) _
      have HST := Lib.hid (doAll_succ (l := l) (z := z + 1) hkl)
      obtain ⟨DL, HD⟩ : ∃ DL, Hid (doAll l (ws.take k) (z + 1) = DL) := ⟨_, Lib.hid rfl⟩
      rw [HD.out] at hC
      go_wp2_with ((go_at_call 116; refine (write_c wn.heap.size s (z + 1) ch2 DL ws[k] _ (hS.next hbX) hC (by omega) (by have := HCL.out; omega)).mono ?_; rintro e w' ⟨⟨vr, rfl⟩, ch3, hS3, hC3, hl3, hch3⟩))
      have hchW : Chg (fun b => wn.heap.size ≤ b) wr w' := (Chg.of_below hbX).trans hch3 (fun b _ hb => hb)
      have hR3 := hR.chg hchW (by have := HAR.out.1; omega)
      have hb3 := hb.trans (hchW.toBelow hb.size (fun q hq => by have : wn.heap.size ≤ q := hq; have := HAR.out.1; omega))
      go_roundw
      case rel => exact ⟨k + 1, by omega, by go_num, ch3, hS3, by rw [HST.out, HD.out]; exact hC3, by have := HCL.out; omega, hR3, hb3⟩
      case measure => simp [intOf]; omega
    · have hkI : decide ((k : Int) < (ws.length : Int)) = false := decide_eq_false (by omega)
      have e : ws.take k = ws := List.take_of_length_le (by omega)
      rw [e] at hC
      have HFL := Lib.hid hC.flat
      have HF2 : Hid ((ch2.flatMap Ch.vs).length ≤ 1048577) := by show (ch2.flatMap Ch.vs).length ≤ 1048577; rw [HFL.out]; have := HLD.out; omega
      have hRl := hR.lt
      clear hC e
      go_wp2_with fail
      refine (vers_c wn.heap.size s (z + 1) ch2 wr hS (by have := HCL.out; omega) HF2.out).mono ?_
      rw [HFL.out]
      obtain ⟨DL, HD⟩ : ∃ DL, Hid (doAll l ws (z + 1) = DL) := ⟨_, Lib.hid rfl⟩
      rw [HD.out]
      have hfD := HFD.out
      rw [HD.out] at hfD
      rintro e w5 ⟨v5, rfl, hO5, hb5⟩
      have hR5 := hR.next hb5
      have hw5 := hb.trans (hb5.mono hb.size)
      obtain ⟨A5, c5, rfl, hlc5, hcm5, hr5⟩ := hO5.read
      obtain ⟨n5, HN5⟩ : ∃ n5, Hid (DL.length = n5) := ⟨_, Lib.hid rfl⟩
      have hb6 : Below w5.heap.size w5 (w5.alloc (.cells #[.int .i64 (z + 1), .slice A5 DL.length c5] 29)).drew := (below_alloc (Below.refl _ _) _).drew
      have hX6 : Blk (w5.alloc (.cells #[.int .i64 (z + 1), .slice A5 DL.length c5] 29)).drew w5.heap.size 29 #[.int .i64 (z + 1), .slice A5 DL.length c5] := blkA w5 _ _
      have hR6 := hR5.next hb6
      have hw6 := below_next hw5 hb6
      have hO6 := hO5.next hb6
      have hr6 := hr5.next hb6
      have h55 := hb5.size
      clear hr5
      go_wp2
      refine wp_region_held_drew (S := (fun W => W.cell? ⟨w5.heap.size, 0, none⟩ = some (.int .i64 (z + 1)) ∧ W.cell? ⟨w5.heap.size, 1, none⟩ = some (.slice A5 DL.length c5))) (by kernel_rfl) ?_ (fun hHeld => ?_)
      focus ((try dsimp only); (exact ⟨by rw [hX6.cell]; rfl, by rw [hX6.cell]; rfl⟩))
      (refine tkW (i := 0) (v := ?_) (by (simp only [ga, gb, gc]; rfl)) (by kernel_rfl) (by (intro _ _ _ h; exact h)) (by rfl) ?_ (by assumption) ?_; rotate_left; (focus ((intro w hSw; (try dsimp only at hSw); go_simp) <;> with_reducible rfl)); (try simp only [Act.put, pa, pb, pc]))
      (refine tkW (i := 1) (v := ?_) (by (simp only [ga, gb, gc]; rfl)) (by kernel_rfl) (by (intro _ _ _ h; exact h)) (by rfl) ?_ (by assumption) ?_; rotate_left; (focus ((intro w hSw; (try dsimp only at hSw); go_simp) <;> with_reducible rfl)); (try simp only [Act.put, pa, pb, pc]))
      (refine wpAnyH_ready (rs := [2]) (by kernel_rfl) (by simp) ?_; refine AllReadyH.cons (by (simp only [ga, gb, gc]; rfl)) (fun K hK => ?_) AllReadyH.nil; go_simp; (go_at_call 23; refine (implVersOk (z + 1) A5 c5 DL _ hfD hlc5 hcm5 hr6).mono ?_; rintro e w7 ⟨rfl, hb7⟩; have hX7 := hX6.next hb7; have hR7 := hR6.next hb7; have hw7 := below_next hw6 hb7; have hO7 := hO6.next hb7; have d0 : w7.cell? ⟨w.heap.size + 1, 0, none⟩ = some (.int .i64 0) := (by rw [hR7.cell]; rfl); have d1 : w7.cell? ⟨w.heap.size + 1, 1, none⟩ = some (.slice none 0 0) := (by rw [hR7.cell]; rfl); have f0 := hR7.free 0; have f1 := hR7.free 1); go_wp2_with fail; refine hK.out _ _ ?_ (fun hHeld => ?_); (focus ((try dsimp only); (exact ⟨by rw [hX7.cell]; rfl, by rw [hX7.cell]; rfl⟩))); clear hK K; (try simp only [Act.put, pa, pb, pc]))
      refine wpAnyH_ready (rs := [3]) (by kernel_rfl) (by simp) (AllReadyH.cons (by (simp only [ga, gb, gc]; rfl)) (fun K hK => ?_) AllReadyH.nil)
      go_simp
      refine hK.out _ _ ?_ (fun hHeld => ?_)
      focus ((try dsimp only); (exact ⟨by rw [((hX7.setOther (a := ⟨w.heap.size + 1, 0, none⟩) (show w5.heap.size ≠ w.heap.size + 1 from by omega) _).setOther (a := ⟨w.heap.size + 1, 1, none⟩) (show w5.heap.size ≠ w.heap.size + 1 from by omega) _).cell]; rfl, by rw [((hX7.setOther (a := ⟨w.heap.size + 1, 0, none⟩) (show w5.heap.size ≠ w.heap.size + 1 from by omega) _).setOther (a := ⟨w.heap.size + 1, 1, none⟩) (show w5.heap.size ≠ w.heap.size + 1 from by omega) _).cell]; rfl⟩))
      clear hK K
      try simp only [Act.put, pa, pb, pc]
      (refine tkW (i := 4) (v := ?_) (by (simp only [ga, gb, gc]; rfl)) (by kernel_rfl) (by (intro _ _ _ h; exact h)) (by rfl) ?_ (by assumption) ?_; rotate_left; (focus ((intro w hSw; (try dsimp only at hSw); go_simp) <;> with_reducible rfl)); (try simp only [Act.put, pa, pb, pc]))
      refine wpAnyH_done (by kernel_rfl) ?_ _
      go_wp2
      refine bodyPost_ret (v := .tuple #[.agg #[.int .i64 (z + 1), .slice A5 DL.length c5], .bool (versB (z + 1) DL)]) (by simp [results, Try.results85, go_sem, d0, d1]) rfl ⟨.slice A5 DL.length c5, by rw [HD.out], ?_, ?_⟩
      · have hne : ∀ g, (Value.slice A5 DL.length c5).ownBlock = some g → g ≠ w.heap.size + 1 := fun g hg => by have := (hO5.block_lt hg).1; omega
        rw [HD.out]
        exact ((hO7.setCell (a := ⟨w.heap.size + 1, 0, none⟩) hne _).setCell (a := ⟨w.heap.size + 1, 1, none⟩) hne _).low (by have := hb.size; omega)
      · exact (hw7.setCell (by simp <;> omega) _).setCell (by simp <;> omega) _

end Go.Proofs.Ytbhdgalkedegjaa
