/- The program's snapshotsFit. -/
import Derived.Test.YtbhdgalkedegjaaC2f
namespace Go.Proofs.Ytbhdgalkedegjaa
open Go.RowKit Go.Shelf
set_option linter.unusedVariables false
set_option maxRecDepth 100000
attribute [local go_sem] Oper.semAt_some

def markD (D : Nat) : Deferred := { target := .collected D, args := #[] }
/-- a function leaves by its marks: each hands no call over -/
theorem leaves_marks {F : Fence} {n : Nat} {fn : Func} {tmps : Array Value} {R : Ending → World → Prop} (v : Value) (hres : ∀ w, (results fn tmps).run Try.prog w = .ok v w) (w0 : World) (hR : ∀ W, Below w0.heap.size w0 W → R (.returned v) W) :
    (ds : List Nat) → (W : World) → Below w0.heap.size w0 W → (∀ D ∈ ds, w0.heap.size ≤ D ∧ W.heap[D]? = some (.deferred (some []))) → ds.Nodup → LeavesInM F n Try.prog fn tmps R (ds.map markD) .returning W
  | [], W, hb, _, _ => ⟨v, hres W, hR W hb⟩
  | D :: ds, W, hb, hds, hnd => by
    obtain ⟨hD, hK⟩ := hds D (by simp)
    refine ⟨by simp, .inl ⟨D, _, rfl, run_takeDeferred hK, ?_⟩⟩
    have hbD := belowK_b (w := w0) (Nat.le_refl _) W D _ (.deferred none) hD hK rfl rfl
    rw [List.nodup_cons] at hnd
    refine leaves_marks v hres w0 hR ds _ (hb.trans hbD) (fun D' h' => ⟨(hds D' (by simp [h'])).1, ?_⟩) hnd.2
    have hne : D' ≠ D := by rintro rfl; exact hnd.1 h'
    rw [← (hds D' (by simp [h'])).2]
    simp [World.putObj, Array.getElem?_setIfInBounds, hne.symm]

open Classical in
noncomputable def fitB (z : Int) (chs : List Ch) : Bool := decide (∀ t : Int, 0 ≤ t → t ≤ z → (snapL t chs).length ≤ 10)
theorem fitB_no {z : Int} {chs : List Ch} {t : Int} (h0 : 0 ≤ t) (h1 : t ≤ z) (h : 10 < (snapL t chs).length) : fitB z chs = false := by
  unfold fitB; simp only [decide_eq_false_iff_not]; intro hh; have := hh t h0 h1; omega
theorem fitB_yes {z : Int} {chs : List Ch} (h : ∀ t : Int, 0 ≤ t → t ≤ z → (snapL t chs).length ≤ 10) : fitB z chs = true := by
  unfold fitB; simp only [decide_eq_true_eq]; exact h

/-- what the loop keeps: the count lies in its box, all else is as it was -/
def CntI (w2 : World) (cb : Nat) (pre : List R) (W : World) : Prop := Boxed W cb 3 (.int .i64 (pre.length : Int)) ∧ Chg (fun b => b = cb) w2 W
theorem cntI_own (w2 : World) (cb : Nat) (hcb : cb < w2.heap.size) : OwnFrom w2.heap.size (CntI w2 cb) := by
  rintro s W W' row ⟨hv, hc⟩ hg hr
  refine ⟨(hg.block cb hv.lt (fun e => by have := (hr cb e.symm).1; omega)).trans hv, ⟨hg.os.trans hc.os, hg.tape.trans hc.tape, hg.output.trans hc.output, Nat.le_trans hc.size hg.size, fun k hk hn => ?_⟩⟩
  exact (hg.block k (Nat.lt_of_lt_of_le hk hc.size) (fun e => by have := (hr k e.symm).1; omega)).trans (hc.block k hk hn)

theorem kpT_b {T : Nat → Prop} {w : World} (hT : ∀ k, T k → k < w.heap.size) (W : World) (l : Nat) (o o' : Obj) (hl : w.heap.size ≤ l) (h : W.heap[l]? = some o) (h1 : o.isCells = false) (h2 : o.isWalk = false) : KpT T W (W.putObj l o') := by
  have hb := belowK_b (w := w) (Nat.le_refl _) W l o o' hl h h1 h2
  exact ⟨hb.size, fun k hk => hb.block k (hT k hk)⟩

set_option maxHeartbeats 4000000 in
theorem fit_c (n₀ s : Nat) (z : Int) (chs : List Ch) (w : World) (h : Sto w n₀ s z chs) (hz : z ≤ 40) (hl : chs.length ≤ 1048576) :
    Calls Try.prog 66 #[.pointer (some ⟨s, 0, none⟩)] w fun e w' => e = .returned (.bool (fitB z chs)) ∧ Below w.heap.size w w' := by
  refine (callsIn_wide (n := 3)).1 (callsIn_of_wp_marks Try.func66 rfl trivial ?_ rfl)
  simp only [Try.ntmps66, List.size_toArray, List.length_cons, List.length_nil, Nat.reduceAdd, Nat.reduceSub, Array.replicate_succ, Array.replicate_zero, List.push_toArray, List.append_toArray, List.nil_append, List.cons_append]
  refine wpIn_wide.2 ?_
  go_wp2
  refine wp_loop (fun a W => ∃ (tt : Nat) (u4 u5 u6 u7 u8 u9 u10 u11 u12 u13 u14 u15 u16 u17 u18 u19 u20 : Value) (ds : List Nat), a = { tmps := #[.pointer (some ⟨s, 0, none⟩), undef, .bool false, .int .i64 (tt : Int), u4, u5, u6, u7, u8, u9, u10, u11, u12, u13, u14, u15, u16, u17, u18, u19, u20], defers := ds.map markD } ∧ ((tt : Int) ≤ z + 1 ∨ tt = 0) ∧ (∀ t : Int, 0 ≤ t → t < tt → (snapL t chs).length ≤ 10) ∧ Below w.heap.size w W ∧ (∀ D ∈ ds, w.heap.size ≤ D ∧ W.heap[D]? = some (.deferred (some []))) ∧ ds.Nodup) (fun a _ => 41 - (intOf (a.tmps.getD 3 undef)).toNat) ?_ ?_
  · exact ⟨0, _, _, _, _, _, _, _, _, _, _, _, _, _, _, _, _, _, [], rfl, .inr rfl, fun t h0 h1 => absurd h1 (by omega), Below.refl _ _, fun D hD => by simp at hD, List.nodup_nil⟩
  rintro a W ⟨tt, u4, u5, u6, u7, u8, u9, u10, u11, u12, u13, u14, u15, u16, u17, u18, u19, u20, ds, rfl, htz, hfew, hb, hds, hnd⟩
  have hSW := h.next hb
  obtain ⟨v, hB, hO⟩ := hSW.blk
  have c0 : W.cell? ⟨s, 0, none⟩ = some (.int .i64 z) := by rw [hB.cell]; rfl
  have HF := Lib.hid hfew
  clear hfew
  by_cases hle : (tt : Int) ≤ z
  · have hbx : Below W.heap.size W (((W.alloc (.cells #[.int .i64 0] 3)).alloc (.cells #[.pointer (some ⟨s, 0, none⟩)] 81)).alloc (.cells #[.int .i64 (tt : Int)] 88)) := below_alloc (below_alloc (below_alloc (Below.refl _ _) _) _) _
    have hCb := ((blkA W #[.int .i64 0] 3).alloc (.cells #[.pointer (some ⟨s, 0, none⟩)] 81)).alloc (.cells #[.int .i64 (tt : Int)] 88)
    have hBs := (blkA (W.alloc (.cells #[.int .i64 0] 3)) #[.pointer (some ⟨s, 0, none⟩)] 81).alloc (.cells #[.int .i64 (tt : Int)] 88)
    have hBt := blkA ((W.alloc (.cells #[.int .i64 0] 3)).alloc (.cells #[.pointer (some ⟨s, 0, none⟩)] 81)) #[.int .i64 (tt : Int)] 88
    have hsz : (((W.alloc (.cells #[.int .i64 0] 3)).alloc (.cells #[.pointer (some ⟨s, 0, none⟩)] 81)).alloc (.cells #[.int .i64 (tt : Int)] 88)).heap.size = W.heap.size + 3 := by simp
    simp only [World.size_alloc] at hBs hBt
    go_wp2_with fail
    refine (snapshot_c s tt _).mono ?_
    rintro e w2 ⟨rfl, rfl⟩
    go_wp2
    generalize (((W.alloc (.cells #[.int .i64 0] 3)).alloc (.cells #[.pointer (some ⟨s, 0, none⟩)] 81)).alloc (.cells #[.int .i64 (tt : Int)] 88)) = w2 at *
    have hcb : W.heap.size < w2.heap.size := by omega
    have hWs := hSW.lt
    have hWlo := hSW.lo
    have HSZ := Lib.hid hsz
    refine (wpIn_wide (n := 3)).1 ?_
    refine wpIn_rangeFunc_ownH rfl (by omega) (gf := 111) (lb := #[.pointer (some ⟨W.heap.size + 1, 0, none⟩), .pointer (some ⟨W.heap.size + 1 + 1, 0, none⟩)]) rfl trivial (enters_of Try.func111 (by kernel_rfl) rfl)
      (snapshot_stops _ n₀ s (W.heap.size + 1) (W.heap.size + 1 + 1) (fun k => n₀ ≤ k ∧ k < w2.heap.size ∧ k ≠ W.heap.size) z tt chs hl w2 W (fun k hk => hk.2.1) hSW (fun k h1 h2 => ⟨h1, by omega, by omega⟩) (KpT.below hbx (fun k hk => hk.2)) hBs hBt ⟨by omega, by omega, by omega⟩ ⟨by omega, by omega, by omega⟩)
      KpT.trans (kpT_b (w := w2) (fun k hk => hk.2.1)) (Below.refl _ _) (fun _ => rfl)
      (CntI w2 W.heap.size) (fun _ _ _ => False) (cntI_own w2 W.heap.size hcb) (fun _ _ _ _ _ hs _ _ => hs)
      ⟨hCb, Chg.refl _ _⟩
      (fun x a' _ => a' = { tmps := #[.pointer (some ⟨s, 0, none⟩), undef, .bool false, .int .i64 (tt : Int), .pointer (some ⟨W.heap.size, 0, none⟩), .int .i64 (tt : Int), .pointer (some ⟨s, 0, none⟩), .pointer (some ⟨s, 0, none⟩), .pointer (some ⟨s, 0, none⟩), .int .i64 z, .bool true, u11, u12, .pointer (some ⟨s, 0, none⟩), .int .i64 (tt : Int), .func (.func 111) #[] #[.pointer (some ⟨W.heap.size + 1, 0, none⟩), .pointer (some ⟨W.heap.size + 1 + 1, 0, none⟩)], encR x, u17, u18, u19, u20], defers := [] })
      ?hAx ?assign ?body ?done ?stop
    case hAx =>
      rintro x a' _ W1 W1' row rfl hg hr'
      rfl
    case assign =>
      rintro l0 pre x W1 K hi' hK
      dsimp only [encR]
      gi_wp2
      exact hK _ _ ((KeepsOthers.refl _).from _) (KpT.refl _ _) hi' (by simp [encR])
    case body =>
      rintro l0 pre x a' W1 hl0 ⟨r, hr0⟩ ⟨hv, hc⟩ rfl hlt
      have d0 := hv.cell
      have f0 := hv.frozen
      gi_wp2
      refine ⟨(KeepsOthers.setCell _ _ _).from _, ⟨by simp [World.setCell], fun k hk => Below.heap_setCell W1 ⟨W.heap.size, 0, none⟩ _ k hk.2.2⟩, ?_, hc.setCell (a := ⟨W.heap.size, 0, none⟩) (.inl rfl) _⟩
      have hv' : Blk W1 W.heap.size 3 #[.int .i64 (pre.length : Int)] := hv
      have e : ((pre ++ [x]).length : Int) = (pre.length : Int) + 1 := by simp
      unfold Boxed
      rw [e]
      exact (hv'.set_ 0 _).cast rfl
    case done =>
      rintro D ys W1 hD rfl ⟨hv, hc⟩ hK
      have d0 := hv.cell
      have hbW1 : Below w.heap.size W W1 := (hbx.mono hb.size).trans (hc.toBelow (by have := hb.size; have := hbx.size; omega) (fun k hk => by have := hb.size; omega))
      have hbF := hb.trans hbW1
      have hds1 : ∀ D' ∈ D :: ds, w.heap.size ≤ D' ∧ W1.heap[D']? = some (.deferred (some [])) := by
        intro D' hD'
        rcases List.mem_cons.1 hD' with rfl | hD'
        · exact ⟨by have := hb.size; have := hbx.size; omega, hK⟩
        · obtain ⟨h1, h2⟩ := hds D' hD'
          have hlt : D' < W.heap.size := (Array.getElem?_eq_some_iff.1 h2).1
          exact ⟨h1, (hc.block D' (by omega) (by omega)).trans ((hbx.block D' hlt).trans h2)⟩
      have hnd1 : (D :: ds).Nodup := List.nodup_cons.2 ⟨fun hm => by
        have := (Array.getElem?_eq_some_iff.1 (hds D hm).2).1
        omega, hnd⟩
      have HDS := Lib.hid hds1
      have HND := Lib.hid hnd1
      clear hds hds1 hnd hnd1 hK
      by_cases h10 : 10 < (snapL tt chs).length
      · have hd : decide (10 < (snapL tt chs).length) = true := decide_eq_true h10
        have hd' : decide ((10 : Int) < ((snapL tt chs).length : Int)) = true := decide_eq_true (by omega)
        have HN := Lib.hid (fitB_no (z := z) (by omega) hle h10)
        clear h10
        go_wp2
        exact leaves_marks (ds := D :: ds) (.bool false) (fun w => (results_tmp (t := 2) rfl _ _ w).trans rfl) w (fun W' hb' => ⟨by rw [HN.out], hb'⟩) W1 hbF HDS.out HND.out
      · have hd : decide (10 < (snapL tt chs).length) = false := decide_eq_false h10
        have hd' : decide ((10 : Int) < ((snapL tt chs).length : Int)) = false := decide_eq_false (by omega)
        have H10 := Lib.hid h10
        clear h10
        go_wp2
        refine ⟨⟨tt + 1, _, _, _, _, _, _, _, _, _, _, _, _, _, _, _, _, _, D :: ds, rfl, .inl (by omega), fun t h0 h1 => ?_, hbF, HDS.out, HND.out⟩, ?_⟩
        · by_cases e : t = tt
          · subst e; have := H10.out; omega
          · exact HF.out t h0 (by omega)
        · simp [intOf]; omega
    case stop =>
      rintro D c0 pre W1 _ _ h _
      exact h.elim
  · have hd : decide ((tt : Int) ≤ z) = false := decide_eq_false hle
    have HN := Lib.hid (fitB_yes (z := z) (chs := chs) fun t h0 h1 => HF.out t h0 (by omega))
    have HDS := Lib.hid hds
    clear hds
    go_wp2
    exact leaves_marks (ds := ds) (.bool true) (fun w => (results_tmp (t := 2) rfl _ _ w).trans rfl) w (fun W' hb' => ⟨by rw [HN.out], hb'⟩) W hb HDS.out hnd

end Go.Proofs.Ytbhdgalkedegjaa
