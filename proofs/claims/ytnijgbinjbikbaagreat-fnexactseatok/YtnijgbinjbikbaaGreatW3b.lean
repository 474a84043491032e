/- The model's l3Put: one thing more, in its place. -/
import Derived.Test.YtnijgbinjbikbaaGreatW3a
namespace Go.Proofs.YtnijgbinjbikbaaGreat
open Go.RowKit
set_option linter.unusedVariables false
set_option maxRecDepth 100000

def RetS (w : World) (ws : List X) (e : Ending) (w' : World) : Prop := ∃ v, e = .returned v ∧ OwnG w' w.heap.size v ws ∧ Below w.heap.size w w'
theorem putT_len (x : X) (ws : List X) (k : Nat) : (putT x (ws.take k)).1.length ≤ 2 * ws.length := by
 have h := putT_length x (ws.take k) ([], false)
 rw [List.length_take] at h
 unfold putT
 simp only [List.length_nil] at h
 omega
set_option maxHeartbeats 4000000 in
theorem l3Put_c (A : Option Addr) (c : Nat) (ws : List X) (x : X) (w : World) (hl : ws.length ≤ 1000) (hr : RdG w w.heap.size A ws) :
  Calls Tryz.prog 118 #[.slice A ws.length c, .agg #[.string x.k, .int .i64 x.n, .bool x.g]] w (RetS w (putXs ws x)) := by
 have hb0 : Below w.heap.size w ((w.alloc (.cells #[.string x.k, .int .i64 x.n, .bool x.g] 98)).alloc (.cells #[] 98)) := below_alloc (below_alloc (Below.refl _ _) _) _
 have hB0 := (blkA w #[.string x.k, .int .i64 x.n, .bool x.g] 98).alloc (.cells #[] 98)
 have hO0 := OwnG.fresh (α := X) (w.alloc (.cells #[.string x.k, .int .i64 x.n, .bool x.g] 98)) (w.heap.size + 1) (by rw [World.size_alloc]; exact Nat.le_refl _)
 rw [World.size_alloc] at hO0
 go_enter Tryz.func118, Tryz.ntmps118
 go_wp2
 go_loopw [5, 6, 7] (fun o b i W => ∃ k : Nat, k ≤ ws.length ∧ i = .int .i64 k ∧ b = .bool (putT x (ws.take k)).2 ∧ OwnG W (w.heap.size + 1) o (putT x (ws.take k)).1 ∧ Blk W w.heap.size 98 #[.string x.k, .int .i64 x.n, .bool x.g] ∧ Below w.heap.size w W) (fun _ _ i _ => ws.length - (intOf i).toNat)
 case atStart => exact ⟨0, Nat.zero_le _, rfl, rfl, hO0, hB0, hb0⟩
 case round =>
  obtain ⟨k, hk, rfl, rfl, hO, hB, hb⟩ := hrel
  clear hb0 hB0 hO0
  have hlen := putT_len x ws k
  obtain ⟨S1, S2, HS⟩ : ∃ S1 S2, Hid (putT x (ws.take k) = (S1, S2)) := ⟨_, _, Lib.hid rfl⟩
  rw [HS.out] at hlen hO ⊢
  have hlen : S1.length ≤ 2 * ws.length := hlen
  have hO : OwnG wr (w.heap.size + 1) _ S1 := hO
  have hz := hb.size
  have hBl := hB.lt
  have HLEN : Hid (S1.length + [x].length ≤ 4194304) := Lib.hid (by simp; omega)
  by_cases hkl : k < ws.length
  ·
   have hkI := lenI _ _ hkl
   obtain ⟨eb, eo, rfl, hqb, _⟩ := (hr.below hb).atX hkl
   clear hqb
   obtain ⟨Ao, co, rfl, hy1, hy2, hy3⟩ := hO.read
   clear hy1 hy2 hy3
   have HLEN2 : Hid ((S1 ++ [x]).length + [x].length ≤ 4194304) := Lib.hid (by simp; omega)
   cases S2
   ·
    cases hlt : Op.bytesLess ws[k].k.toList x.k.toList
    ·
     have HLT : lt ws[k].k x.k = false := hlt
     have kx0 : wr.cell? ⟨w.heap.size, 0, none⟩ = some (.string x.k) := by rw [hB.cell]; rfl
     have kx1 : wr.cell? ⟨w.heap.size, 1, none⟩ = some (.int .i64 x.n) := by rw [hB.cell]; rfl
     have kx2 : wr.cell? ⟨w.heap.size, 2, none⟩ = some (.bool x.g) := by rw [hB.cell]; rfl
     obtain ⟨k0, k1, k2⟩ := (hr.below hb).fixX rfl hkl
     go_wp2
     refine wp_region_held_drew (S := (fun W => W.cell? ⟨eb, eo + k * 3, none⟩ = some (.string ws[k].k) ∧ W.cell? ⟨w.heap.size, 0, none⟩ = some (.string x.k))) (by kernel_rfl) ?_ (fun hHeld => ?_)
     focus ((try dsimp only); (exact ⟨k0, kx0⟩))
     refine tk 0 ?_
     refine tk 1 ?_
     refine tk 2 ?_
     refine tk 3 ?_
     refine tk 4 ?_
     refine tk 5 ?_
     refine tk 6 ?_
     refine tk 7 ?_
     refine tk 8 ?_
     refine tk 9 ?_
     refine tk 10 ?_
     refine tk 11 ?_
     refine wpAnyH_done (by kernel_rfl) ?_ _
     clear kx0 kx1 kx2 k0 k1 k2
     have hBe := hB.next (Below.refl _ wr).drew
     have hOe := hO.next (Below.refl _ wr).drew
     have hbe := hb.drew
     obtain ⟨we, HWE⟩ : ∃ we, Hid (wr.drew = we) := ⟨_, Lib.hid rfl⟩
     rw [HWE.out] at hBe hOe hbe
     have hwe := hBe.lt
     rw [HWE.out]
     have e0 : we.cell? ⟨w.heap.size, 0, none⟩ = some (.string x.k) := by rw [hBe.cell]; rfl
     have e1 : we.cell? ⟨w.heap.size, 1, none⟩ = some (.int .i64 x.n) := by rw [hBe.cell]; rfl
     have e2 : we.cell? ⟨w.heap.size, 2, none⟩ = some (.bool x.g) := by rw [hBe.cell]; rfl
     go_wp2_with ((at_builtin; refine wpList_appG (α := X) (we.alloc (.cells #[.string x.k, .int .i64 x.n, .bool x.g] 98)) rfl _ _ _ _ 98 rfl Tryz.underlying23 Tryz.underlying23 (w.heap.size + 1) _ (S1) rfl (hOe.alloc _) (some ⟨we.heap.size, 0, none⟩) 1 _ 1 [x] rfl rfl (rdOneX we x 98) HLEN.out (by rw [World.size_alloc]; omega) ?_; intro v5 w5 hv5 hg5 hat5))
     have hB5 := (hBe.alloc (.cells #[.string x.k, .int .i64 x.n, .bool x.g] 98)).grown hg5 (hOe.ne_block (by omega))
     have hb5 := (hOe.alloc (.cells #[.string x.k, .int .i64 x.n, .bool x.g] 98)).below (below_alloc hbe _) hg5 (by omega)
     have hz5 := hb5.size
     have hsz5 := hg5.size
     rw [World.size_alloc] at hsz5
     clear e0 e1 e2
     obtain ⟨A5, c5, rfl, hy1, hy2, hy3⟩ := hv5.read
     clear hy1 hy2 hy3
     have hBl5 := hB5.lt
     have HLEN := HLEN2
     cases he : ws[k].k.toList == x.k.toList
     ·
      have HE : Hid (putT x (ws.take (k + 1)) = (S1 ++ [x] ++ [ws[k]], true)) := Lib.hid (by rw [putT_succ x hkl, HS.out]; unfold putS; dsimp only; rw [HLT]; simp only [Bool.not_false, Bool.and_self, if_true]; rw [he]; rfl)
      have kx0 : w5.cell? ⟨w.heap.size, 0, none⟩ = some (.string x.k) := by rw [hB5.cell]; rfl
      have kx1 : w5.cell? ⟨w.heap.size, 1, none⟩ = some (.int .i64 x.n) := by rw [hB5.cell]; rfl
      have kx2 : w5.cell? ⟨w.heap.size, 2, none⟩ = some (.bool x.g) := by rw [hB5.cell]; rfl
      obtain ⟨k0, k1, k2⟩ := (hr.below hb5).fixX rfl hkl
      go_wp2
      refine wp_region_held_drew (S := (fun W => W.cell? ⟨eb, eo + k * 3, none⟩ = some (.string ws[k].k) ∧ W.cell? ⟨w.heap.size, 0, none⟩ = some (.string x.k))) (by kernel_rfl) ?_ (fun hHeld => ?_)
      focus ((try dsimp only); (exact ⟨k0, kx0⟩))
      refine tk 0 ?_
      refine tk 1 ?_
      refine tk 2 ?_
      refine tk 3 ?_
      refine tk 4 ?_
      refine tk 5 ?_
      refine tk 6 ?_
      refine tk 7 ?_
      refine wpAnyH_done (by kernel_rfl) ?_ _
      clear kx0 kx1 kx2 k0 k1 k2
      have hBd := hB5.next (Below.refl _ w5).drew
      have hOd := hv5.next (Below.refl _ w5).drew
      have hbd := hb5.drew
      obtain ⟨wd, HWD⟩ : ∃ wd, Hid (w5.drew = wd) := ⟨_, Lib.hid rfl⟩
      rw [HWD.out] at hBd hOd hbd
      have hwz := hBd.lt
      rw [HWD.out]
      obtain ⟨y, HY⟩ : ∃ y, Hid (ws[k] = y) := ⟨_, Lib.hid rfl⟩
      obtain ⟨m0, m1, m2⟩ := (hr.below hbd).fixX rfl hkl
      rw [HY.out] at m0 m1 m2
      go_wp2_with (at_builtin; refine wpList_appG (α := X) (wd.alloc (.cells #[.string y.k, .int .i64 y.n, .bool y.g] 98)) rfl _ _ _ _ 98 rfl Tryz.underlying23 Tryz.underlying23 (w.heap.size + 1) _ (S1 ++ [x]) rfl (hOd.alloc _) (some ⟨wd.heap.size, 0, none⟩) 1 _ 1 [y] rfl rfl (rdOneX wd y 98) HLEN.out (by rw [World.size_alloc]; omega) ?_; intro v8 w8 hv8 hg8 hat8)
      have hB8 := (hBd.alloc (.cells #[.string y.k, .int .i64 y.n, .bool y.g] 98)).grown hg8 (hOd.ne_block (by omega))
      have hb8 := (hOd.alloc (.cells #[.string y.k, .int .i64 y.n, .bool y.g] 98)).below (below_alloc hbd _) hg8 (by omega)
      have hz8 := hb8.size
      have hsz8 := hg8.size
      rw [World.size_alloc] at hsz8
      go_roundw
      case rel => exact ⟨k + 1, by omega, by go_num, by rw [HE.out], by rw [HE.out, HY.out]; exact hv8, hB8, hb8⟩
      case measure => simp [intOf]; omega
     ·
      have HE : Hid (putT x (ws.take (k + 1)) = (S1 ++ [x], true)) := Lib.hid (by rw [putT_succ x hkl, HS.out]; unfold putS; dsimp only; rw [HLT]; simp only [Bool.not_false, Bool.and_self, if_true]; rw [he]; rfl)
      have kx0 : w5.cell? ⟨w.heap.size, 0, none⟩ = some (.string x.k) := by rw [hB5.cell]; rfl
      have kx1 : w5.cell? ⟨w.heap.size, 1, none⟩ = some (.int .i64 x.n) := by rw [hB5.cell]; rfl
      have kx2 : w5.cell? ⟨w.heap.size, 2, none⟩ = some (.bool x.g) := by rw [hB5.cell]; rfl
      obtain ⟨k0, k1, k2⟩ := (hr.below hb5).fixX rfl hkl
      go_wp2
      refine wp_region_held_drew (S := (fun W => W.cell? ⟨eb, eo + k * 3, none⟩ = some (.string ws[k].k) ∧ W.cell? ⟨w.heap.size, 0, none⟩ = some (.string x.k))) (by kernel_rfl) ?_ (fun hHeld => ?_)
      focus ((try dsimp only); (exact ⟨k0, kx0⟩))
      refine tk 0 ?_
      refine tk 1 ?_
      refine tk 2 ?_
      refine tk 3 ?_
      refine tk 4 ?_
      refine tk 5 ?_
      refine tk 6 ?_
      refine tk 7 ?_
      refine wpAnyH_done (by kernel_rfl) ?_ _
      clear kx0 kx1 kx2 k0 k1 k2
      have hBd := hB5.next (Below.refl _ w5).drew
      have hOd := hv5.next (Below.refl _ w5).drew
      have hbd := hb5.drew
      go_wp2
      go_roundw
      case rel => exact ⟨k + 1, by omega, by go_num, by rw [HE.out], by rw [HE.out]; exact hOd, hBd, hbd⟩
      case measure => simp [intOf]; omega
    ·
     have HLT : lt ws[k].k x.k = true := hlt
     have kx0 : wr.cell? ⟨w.heap.size, 0, none⟩ = some (.string x.k) := by rw [hB.cell]; rfl
     have kx1 : wr.cell? ⟨w.heap.size, 1, none⟩ = some (.int .i64 x.n) := by rw [hB.cell]; rfl
     have kx2 : wr.cell? ⟨w.heap.size, 2, none⟩ = some (.bool x.g) := by rw [hB.cell]; rfl
     obtain ⟨k0, k1, k2⟩ := (hr.below hb).fixX rfl hkl
     go_wp2
     refine wp_region_held_drew (S := (fun W => W.cell? ⟨eb, eo + k * 3, none⟩ = some (.string ws[k].k) ∧ W.cell? ⟨w.heap.size, 0, none⟩ = some (.string x.k))) (by kernel_rfl) ?_ (fun hHeld => ?_)
     focus ((try dsimp only); (exact ⟨k0, kx0⟩))
     refine tk 0 ?_
     refine tk 1 ?_
     refine tk 2 ?_
     refine tk 3 ?_
     refine tk 4 ?_
     refine tk 5 ?_
     refine tk 6 ?_
     refine tk 7 ?_
     refine tk 8 ?_
     refine tk 9 ?_
     refine tk 10 ?_
     refine tk 11 ?_
     refine wpAnyH_done (by kernel_rfl) ?_ _
     clear kx0 kx1 kx2 k0 k1 k2
     have hBe := hB.next (Below.refl _ wr).drew
     have hOe := hO.next (Below.refl _ wr).drew
     have hbe := hb.drew
     obtain ⟨we, HWE⟩ : ∃ we, Hid (wr.drew = we) := ⟨_, Lib.hid rfl⟩
     rw [HWE.out] at hBe hOe hbe
     have hwe := hBe.lt
     rw [HWE.out]
     have hze := hbe.size
     cases he : ws[k].k.toList == x.k.toList
     ·
      have HE : Hid (putT x (ws.take (k + 1)) = (S1 ++ [ws[k]], false)) := Lib.hid (by rw [putT_succ x hkl, HS.out]; unfold putS; dsimp only; rw [HLT]; simp only [Bool.not_true, Bool.and_false, Bool.false_eq_true, if_false]; rw [he]; rfl)
      have kx0 : we.cell? ⟨w.heap.size, 0, none⟩ = some (.string x.k) := by rw [hBe.cell]; rfl
      have kx1 : we.cell? ⟨w.heap.size, 1, none⟩ = some (.int .i64 x.n) := by rw [hBe.cell]; rfl
      have kx2 : we.cell? ⟨w.heap.size, 2, none⟩ = some (.bool x.g) := by rw [hBe.cell]; rfl
      obtain ⟨k0, k1, k2⟩ := (hr.below hbe).fixX rfl hkl
      go_wp2
      refine wp_region_held_drew (S := (fun W => W.cell? ⟨eb, eo + k * 3, none⟩ = some (.string ws[k].k) ∧ W.cell? ⟨w.heap.size, 0, none⟩ = some (.string x.k))) (by kernel_rfl) ?_ (fun hHeld => ?_)
      focus ((try dsimp only); (exact ⟨k0, kx0⟩))
      refine tk 0 ?_
      refine tk 1 ?_
      refine tk 2 ?_
      refine tk 3 ?_
      refine tk 4 ?_
      refine tk 5 ?_
      refine tk 6 ?_
      refine tk 7 ?_
      refine wpAnyH_done (by kernel_rfl) ?_ _
      clear kx0 kx1 kx2 k0 k1 k2
      have hBd := hBe.next (Below.refl _ we).drew
      have hOd := hOe.next (Below.refl _ we).drew
      have hbd := hbe.drew
      obtain ⟨wd, HWD⟩ : ∃ wd, Hid (we.drew = wd) := ⟨_, Lib.hid rfl⟩
      rw [HWD.out] at hBd hOd hbd
      have hwz := hBd.lt
      rw [HWD.out]
      obtain ⟨y, HY⟩ : ∃ y, Hid (ws[k] = y) := ⟨_, Lib.hid rfl⟩
      obtain ⟨m0, m1, m2⟩ := (hr.below hbd).fixX rfl hkl
      rw [HY.out] at m0 m1 m2
      go_wp2_with (at_builtin; refine wpList_appG (α := X) (wd.alloc (.cells #[.string y.k, .int .i64 y.n, .bool y.g] 98)) rfl _ _ _ _ 98 rfl Tryz.underlying23 Tryz.underlying23 (w.heap.size + 1) _ (S1) rfl (hOd.alloc _) (some ⟨wd.heap.size, 0, none⟩) 1 _ 1 [y] rfl rfl (rdOneX wd y 98) HLEN.out (by rw [World.size_alloc]; omega) ?_; intro v8 w8 hv8 hg8 hat8)
      have hB8 := (hBd.alloc (.cells #[.string y.k, .int .i64 y.n, .bool y.g] 98)).grown hg8 (hOd.ne_block (by omega))
      have hb8 := (hOd.alloc (.cells #[.string y.k, .int .i64 y.n, .bool y.g] 98)).below (below_alloc hbd _) hg8 (by omega)
      have hz8 := hb8.size
      have hsz8 := hg8.size
      rw [World.size_alloc] at hsz8
      go_roundw
      case rel => exact ⟨k + 1, by omega, by go_num, by rw [HE.out], by rw [HE.out, HY.out]; exact hv8, hB8, hb8⟩
      case measure => simp [intOf]; omega
     ·
      have HE : Hid (putT x (ws.take (k + 1)) = (S1, false)) := Lib.hid (by rw [putT_succ x hkl, HS.out]; unfold putS; dsimp only; rw [HLT]; simp only [Bool.not_true, Bool.and_false, Bool.false_eq_true, if_false]; rw [he]; rfl)
      have kx0 : we.cell? ⟨w.heap.size, 0, none⟩ = some (.string x.k) := by rw [hBe.cell]; rfl
      have kx1 : we.cell? ⟨w.heap.size, 1, none⟩ = some (.int .i64 x.n) := by rw [hBe.cell]; rfl
      have kx2 : we.cell? ⟨w.heap.size, 2, none⟩ = some (.bool x.g) := by rw [hBe.cell]; rfl
      obtain ⟨k0, k1, k2⟩ := (hr.below hbe).fixX rfl hkl
      go_wp2
      refine wp_region_held_drew (S := (fun W => W.cell? ⟨eb, eo + k * 3, none⟩ = some (.string ws[k].k) ∧ W.cell? ⟨w.heap.size, 0, none⟩ = some (.string x.k))) (by kernel_rfl) ?_ (fun hHeld => ?_)
      focus ((try dsimp only); (exact ⟨k0, kx0⟩))
      refine tk 0 ?_
      refine tk 1 ?_
      refine tk 2 ?_
      refine tk 3 ?_
      refine tk 4 ?_
      refine tk 5 ?_
      refine tk 6 ?_
      refine tk 7 ?_
      refine wpAnyH_done (by kernel_rfl) ?_ _
      clear kx0 kx1 kx2 k0 k1 k2
      have hBd := hBe.next (Below.refl _ we).drew
      have hOd := hOe.next (Below.refl _ we).drew
      have hbd := hbe.drew
      go_wp2
      go_roundw
      case rel => exact ⟨k + 1, by omega, by go_num, by rw [HE.out], by rw [HE.out]; exact hOd, hBd, hbd⟩
      case measure => simp [intOf]; omega
   ·
    clear HLEN2
    have kx0 : wr.cell? ⟨w.heap.size, 0, none⟩ = some (.string x.k) := by rw [hB.cell]; rfl
    have kx1 : wr.cell? ⟨w.heap.size, 1, none⟩ = some (.int .i64 x.n) := by rw [hB.cell]; rfl
    have kx2 : wr.cell? ⟨w.heap.size, 2, none⟩ = some (.bool x.g) := by rw [hB.cell]; rfl
    obtain ⟨k0, k1, k2⟩ := (hr.below hb).fixX rfl hkl
    go_wp2
    refine wp_region_held_drew (S := (fun W => W.cell? ⟨eb, eo + k * 3, none⟩ = some (.string ws[k].k) ∧ W.cell? ⟨w.heap.size, 0, none⟩ = some (.string x.k))) (by kernel_rfl) ?_ (fun hHeld => ?_)
    focus ((try dsimp only); (exact ⟨k0, kx0⟩))
    refine tk 0 ?_
    refine tk 1 ?_
    refine tk 2 ?_
    refine ts 3 ?_
    refine ts 4 ?_
    refine ts 5 ?_
    refine ts 6 ?_
    refine ts 7 ?_
    refine ts 8 ?_
    refine ts 9 ?_
    refine ts 10 ?_
    refine tk 11 ?_
    refine wpAnyH_done (by kernel_rfl) ?_ _
    clear kx0 kx1 kx2 k0 k1 k2
    have hBe := hB.next (Below.refl _ wr).drew
    have hOe := hO.next (Below.refl _ wr).drew
    have hbe := hb.drew
    obtain ⟨we, HWE⟩ : ∃ we, Hid (wr.drew = we) := ⟨_, Lib.hid rfl⟩
    rw [HWE.out] at hBe hOe hbe
    have hwe := hBe.lt
    rw [HWE.out]
    have hze := hbe.size
    cases he : ws[k].k.toList == x.k.toList
    ·
     have HE : Hid (putT x (ws.take (k + 1)) = (S1 ++ [ws[k]], true)) := Lib.hid (by rw [putT_succ x hkl, HS.out]; unfold putS; dsimp only; simp only [Bool.not_true, Bool.false_and, Bool.false_eq_true, if_false]; rw [he]; rfl)
     have kx0 : we.cell? ⟨w.heap.size, 0, none⟩ = some (.string x.k) := by rw [hBe.cell]; rfl
     have kx1 : we.cell? ⟨w.heap.size, 1, none⟩ = some (.int .i64 x.n) := by rw [hBe.cell]; rfl
     have kx2 : we.cell? ⟨w.heap.size, 2, none⟩ = some (.bool x.g) := by rw [hBe.cell]; rfl
     obtain ⟨k0, k1, k2⟩ := (hr.below hbe).fixX rfl hkl
     go_wp2
     refine wp_region_held_drew (S := (fun W => W.cell? ⟨eb, eo + k * 3, none⟩ = some (.string ws[k].k) ∧ W.cell? ⟨w.heap.size, 0, none⟩ = some (.string x.k))) (by kernel_rfl) ?_ (fun hHeld => ?_)
     focus ((try dsimp only); (exact ⟨k0, kx0⟩))
     refine tk 0 ?_
     refine tk 1 ?_
     refine tk 2 ?_
     refine tk 3 ?_
     refine tk 4 ?_
     refine tk 5 ?_
     refine tk 6 ?_
     refine tk 7 ?_
     refine wpAnyH_done (by kernel_rfl) ?_ _
     clear kx0 kx1 kx2 k0 k1 k2
     have hBd := hBe.next (Below.refl _ we).drew
     have hOd := hOe.next (Below.refl _ we).drew
     have hbd := hbe.drew
     obtain ⟨wd, HWD⟩ : ∃ wd, Hid (we.drew = wd) := ⟨_, Lib.hid rfl⟩
     rw [HWD.out] at hBd hOd hbd
     have hwz := hBd.lt
     rw [HWD.out]
     obtain ⟨y, HY⟩ : ∃ y, Hid (ws[k] = y) := ⟨_, Lib.hid rfl⟩
     obtain ⟨m0, m1, m2⟩ := (hr.below hbd).fixX rfl hkl
     rw [HY.out] at m0 m1 m2
     go_wp2_with (at_builtin; refine wpList_appG (α := X) (wd.alloc (.cells #[.string y.k, .int .i64 y.n, .bool y.g] 98)) rfl _ _ _ _ 98 rfl Tryz.underlying23 Tryz.underlying23 (w.heap.size + 1) _ (S1) rfl (hOd.alloc _) (some ⟨wd.heap.size, 0, none⟩) 1 _ 1 [y] rfl rfl (rdOneX wd y 98) HLEN.out (by rw [World.size_alloc]; omega) ?_; intro v8 w8 hv8 hg8 hat8)
     have hB8 := (hBd.alloc (.cells #[.string y.k, .int .i64 y.n, .bool y.g] 98)).grown hg8 (hOd.ne_block (by omega))
     have hb8 := (hOd.alloc (.cells #[.string y.k, .int .i64 y.n, .bool y.g] 98)).below (below_alloc hbd _) hg8 (by omega)
     have hz8 := hb8.size
     have hsz8 := hg8.size
     rw [World.size_alloc] at hsz8
     go_roundw
     case rel => exact ⟨k + 1, by omega, by go_num, by rw [HE.out], by rw [HE.out, HY.out]; exact hv8, hB8, hb8⟩
     case measure => simp [intOf]; omega
    ·
     have HE : Hid (putT x (ws.take (k + 1)) = (S1, true)) := Lib.hid (by rw [putT_succ x hkl, HS.out]; unfold putS; dsimp only; simp only [Bool.not_true, Bool.false_and, Bool.false_eq_true, if_false]; rw [he]; rfl)
     have kx0 : we.cell? ⟨w.heap.size, 0, none⟩ = some (.string x.k) := by rw [hBe.cell]; rfl
     have kx1 : we.cell? ⟨w.heap.size, 1, none⟩ = some (.int .i64 x.n) := by rw [hBe.cell]; rfl
     have kx2 : we.cell? ⟨w.heap.size, 2, none⟩ = some (.bool x.g) := by rw [hBe.cell]; rfl
     obtain ⟨k0, k1, k2⟩ := (hr.below hbe).fixX rfl hkl
     go_wp2
     refine wp_region_held_drew (S := (fun W => W.cell? ⟨eb, eo + k * 3, none⟩ = some (.string ws[k].k) ∧ W.cell? ⟨w.heap.size, 0, none⟩ = some (.string x.k))) (by kernel_rfl) ?_ (fun hHeld => ?_)
     focus ((try dsimp only); (exact ⟨k0, kx0⟩))
     refine tk 0 ?_
     refine tk 1 ?_
     refine tk 2 ?_
     refine tk 3 ?_
     refine tk 4 ?_
     refine tk 5 ?_
     refine tk 6 ?_
     refine tk 7 ?_
     refine wpAnyH_done (by kernel_rfl) ?_ _
     clear kx0 kx1 kx2 k0 k1 k2
     have hBd := hBe.next (Below.refl _ we).drew
     have hOd := hOe.next (Below.refl _ we).drew
     have hbd := hbe.drew
     go_wp2
     go_roundw
     case rel => exact ⟨k + 1, by omega, by go_num, by rw [HE.out], by rw [HE.out]; exact hOd, hBd, hbd⟩
     case measure => simp [intOf]; omega
  ·
   have hkI : decide ((k : Int) < (ws.length : Int)) = false := decide_eq_false (by omega)
   have HT : Hid (putT x ws = (S1, S2)) := Lib.hid (by have h := HS.out; rw [show k = ws.length from by omega, List.take_length] at h; exact h)
   obtain ⟨Ao, co, rfl, hy1, hy2, hy3⟩ := hO.read
   clear hy1 hy2 hy3
   cases S2
   ·
    have HE : Hid (putXs ws x = S1 ++ [x]) := Lib.hid (by unfold putXs; rw [HT.out]; rfl)
    have e0 : wr.cell? ⟨w.heap.size, 0, none⟩ = some (.string x.k) := by rw [hB.cell]; rfl
    have e1 : wr.cell? ⟨w.heap.size, 1, none⟩ = some (.int .i64 x.n) := by rw [hB.cell]; rfl
    have e2 : wr.cell? ⟨w.heap.size, 2, none⟩ = some (.bool x.g) := by rw [hB.cell]; rfl
    go_wp2_with (at_builtin; refine wpList_appG (α := X) (wr.alloc (.cells #[.string x.k, .int .i64 x.n, .bool x.g] 98)) rfl _ _ _ _ 98 rfl Tryz.underlying23 Tryz.underlying23 (w.heap.size + 1) _ (S1) rfl (hO.alloc _) (some ⟨wr.heap.size, 0, none⟩) 1 _ 1 [x] rfl rfl (rdOneX wr x 98) HLEN.out (by rw [World.size_alloc]; omega) ?_; intro v5 w5 hv5 hg5 hat5)
    have hB5 := (hB.alloc (.cells #[.string x.k, .int .i64 x.n, .bool x.g] 98)).grown hg5 (hO.ne_block (by omega))
    have hb5 := (hO.alloc (.cells #[.string x.k, .int .i64 x.n, .bool x.g] 98)).below (below_alloc hb _) hg5 (by omega)
    have hz5 := hb5.size
    have hsz5 := hg5.size
    rw [World.size_alloc] at hsz5
    obtain ⟨A5, c5, rfl, hy1, hy2, hy3⟩ := hv5.read
    clear hy1 hy2 hy3
    go_wp2
    go_ret
    exact ⟨_, rfl, by rw [HE.out]; exact hv5.low (by omega), hb5⟩
   ·
    have HE : Hid (putXs ws x = S1) := Lib.hid (by unfold putXs; rw [HT.out]; rfl)
    go_wp2
    go_ret
    exact ⟨_, rfl, by rw [HE.out]; exact hO.low (by omega), hb⟩

end Go.Proofs.YtnijgbinjbikbaaGreat
